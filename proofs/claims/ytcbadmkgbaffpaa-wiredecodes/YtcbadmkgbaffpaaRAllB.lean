/- The texts on the document's side, in one. -/
import Derived.Test.YtcbadmkgbaffpaaRAll
import Derived.Test.YtcbadmkgbaffpaaWRead
import Derived.Test.YtcbadmkgbaffpaaRefDec
/- The contract of the document's with over this seat's translation. -/
namespace Go.Proofs.Ytcbadmkgbaffpaa
open Go.RowKit
set_option linter.unusedVariables false
set_option linter.unusedSimpArgs false

section
variable {ops : Array Oper} {rest : List Oper} {o : Oper} {a : Act} {W W' : World} {Q : Exit → Act → World → Prop} {v : Value}
theorem st_sk (hd : o.dst = none) (hw : Region.wanted o (yielded ops a.tmps) = true) (hr : (execOp a.eval o).run Try.prog W = .ok .skip W') (h : wpList Try.prog ops Q rest a W') : wpList Try.prog ops Q (o :: rest) a W :=
  wpList_step fun K hK => by rw [if_pos hw]; unfold Oper.wp; rw [hr]; exact hK _ _ (by rw [hd]; exact h)
theorem ex_sto3 {x y : Operand} {b p : Nat} {n n2 : Int} (ho : o.op = .store 3 x y) (hx : a.eval x = .pointer (some ⟨b, p, none⟩)) (hy : a.eval y = .int .i64 n) (hc : W.cell? ⟨b, p, none⟩ = some (.int .i64 n2)) (hf : W.frozen? ⟨b, p, none⟩ = false) : (execOp a.eval o).run Try.prog W = .ok .skip (W.setCell ⟨b, p, none⟩ (.int .i64 n)) := by
  unfold execOp
  simp only [ho, hx, hy]
  go_simp
theorem ex_sto23 {x y : Operand} {b p n c n2 c2 : Nat} {ao ao2 : Option Addr} (ho : o.op = .store 23 x y) (hx : a.eval x = .pointer (some ⟨b, p, none⟩)) (hy : a.eval y = .slice ao n c) (hc : W.cell? ⟨b, p, none⟩ = some (.slice ao2 n2 c2)) (hf : W.frozen? ⟨b, p, none⟩ = false) : (execOp a.eval o).run Try.prog W = .ok .skip (W.setCell ⟨b, p, none⟩ (.slice ao n c)) := by
  unfold execOp
  simp only [ho, hx, hy]
  go_simp
end
theorem geq3 (x y : Int) (W : World) : (binOp .geq 3 (.int .i64 x) (.int .i64 y)).run Try.prog W = .ok (.bool (decide (x ≥ y))) W := by go_simp
theorem blk_out {next : Act → World → Prop} {Q : Exit → Act → World → Prop} {a : Act} {w : World} {id : Nat} (h : next a w) : Exit.inBlock id (Exit.then next Q) .normal a w := h
theorem blk_ret {next : Act → World → Prop} {Q : Exit → Act → World → Prop} {a : Act} {w : World} {id : Nat} (h : Q .ret a w) : Exit.inBlock id (Exit.then next Q) .ret a w := h
/-- the field that with sets, and whether the bytes are one -/
def withF (i : Nat) (a : Option Addr) (c : Nat) (L : List Int) : Fld := if form i = 0 then .num (rdNumI L) else if form i = 1 then .arr (hashL L) else .lst a c L
def withOk (i : Nat) (L : List Int) : Bool := if form i = 0 then decide (rdNumI L ≥ 0) else if form i = 1 then decide (L.length = 32) else true
theorem hashL_len (L : List Int) : (hashL L).length = 32 := by
  unfold hashL
  split
  · assumption
  · rfl
theorem withF_fits (i : Nat) (a : Option Addr) (c : Nat) (L : List Int) : (withF i a c L).fits i := by
  unfold withF
  rcases form_cases i with h | h | h
  · rw [if_pos h]; exact ⟨h.symm, fun l e => by cases e⟩
  · rw [if_neg (by omega), if_pos h]; exact ⟨h.symm, fun l e => by cases e; exact hashL_len L⟩
  · rw [if_neg (by omega), if_neg (by omega)]; exact ⟨h.symm, fun l e => by cases e⟩
def WithP (i : Nat) (K : Int) (F : Nat → Fld) (a : Option Addr) (c : Nat) (L : List Int) (w : World) (e : Ending) (w' : World) : Prop := e = .returned (.tuple #[.agg (mc K (upd F i (withF i a c L))).toArray, .bool (withOk i L)]) ∧ Hid (Below w.heap.size w w')
/-- the world in which the field is set -/
structure Pre (w : World) (W : World) (K : Int) (F : Nat → Fld) (b8 : Nat) (X : List Int) (a : Option Addr) (c : Nat) (L : List Int) : Prop where
  m : MsgAt W w.heap.size K F
  r : MsgAt W (w.heap.size + 1) 0 ZF
  x : RowAt W b8 X
  below : Below w.heap.size w W
  ne : b8 ≠ w.heap.size
theorem Pre.end_ {w W : World} {K : Int} {F : Nat → Fld} {b8 : Nat} {X : List Int} {a : Option Addr} {c : Nat} {L : List Int} (h : Pre w W K F b8 X a c L) {i : Nat} (hi : i < 12) {f : Fld} (hf : f.fits i) :
    MsgAt (W.setCells w.heap.size (off i) f.cells) w.heap.size K (upd F i f) ∧ (W.setCells w.heap.size (off i) f.cells).there (w.heap.size + 1) 0 (mc K (upd F i f)).toArray.size ∧ ((W.setCells w.heap.size (off i) f.cells).setCells (w.heap.size + 1) 0 (mc K (upd F i f)).toArray.toList).rangeAt (w.heap.size + 1) 0 (mc K (upd F i f))
      ∧ Below w.heap.size w ((W.setCells w.heap.size (off i) f.cells).setCells (w.heap.size + 1) 0 (mc K (upd F i f)).toArray.toList) := by
  have hfit := fits_upd h.m.fits hf
  have hg := grown_setCells w.heap.size f.cells (off i) W
  have hr := h.r.grown hg (by intro e; have := Option.some.inj e; omega)
  have hB := h.below.grown hg h.below.size (fun k hk => by cases hk; exact Nat.le_refl _)
  exact ⟨h.m.set hi hf, by rw [sizeMsg K hfit]; exact hr.there, World.rangeAt_setCells_same _ _ _ _ (by rw [mc_len K hfit]; exact hr.there), hB.grown (grown_setCells _ _ _ _) hB.size (fun k hk => by cases hk; omega)⟩

set_option maxHeartbeats 4000000 in
theorem with0 (K : Int) (F : Nat → Fld) (hF : Fits F) (ao : Option Addr) (cap : Nat) (L : List Int) (w : World) (hI : IsB w ao cap L) (hL : Bytes L) (hn : L.length ≤ 9223372036854775807) :
    Calls Try.prog 36 #[.agg (mc K F).toArray, .int .u64 1, .slice ao L.length cap] w (WithP 0 K F ao cap L w) := by
  have HAL := hide (fun (a : Act) (W : World) (o : Oper) (ho : o.op = .alloc 25) => ex_alloc25 (a := a) (W := W) ho)
  have HA2 := hide (fun (a : Act) (W : World) (o : Oper) (ho : o.op = .alloc 22) => ex_alloc22 (a := a) (W := W) ho)
  obtain ⟨W0, hW0⟩ : ∃ W0, w.alloc (.cells (mc K F).toArray 25) = W0 := ⟨_, rfl⟩
  obtain ⟨W1, hW1⟩ : ∃ W1, W0.alloc (.cells (mc 0 ZF).toArray 25) = W1 := ⟨_, rfl⟩
  have s0 : W0.heap.size = w.heap.size + 1 := by rw [← hW0]; simp
  have M1 : MsgAt W1 w.heap.size K F := by rw [← hW1, ← hW0]; exact (MsgAt.new w K hF).below (below_alloc _ _)
  have M6 : MsgAt W1 (w.heap.size + 1) 0 ZF := by rw [← s0, ← hW1]; exact MsgAt.new W0 0 ZFits
  have B1 : Below w.heap.size w W1 := by rw [← hW1, ← hW0]; exact ((Below.refl _ _).alloc (Nat.le_refl _) _).alloc (by simp) _
  have I1 := hI.below B1
  have HH := hash_any ao cap L W1 I1 hn
  obtain ⟨X, hX⟩ : ∃ X, hashL L = X := ⟨_, rfl⟩
  have lX : X.length = 32 := by rw [← hX]; exact hashL_len L
  rw [hX] at HH
  obtain ⟨ok, hok⟩ : ∃ ok, decide (L.length = 32) = ok := ⟨_, rfl⟩
  rw [hok] at HH
  obtain ⟨C, hC⟩ : ∃ C, (mc K F).toArray = C := ⟨_, rfl⟩
  obtain ⟨Z, hZ⟩ : ∃ Z, (mc 0 ZF).toArray = Z := ⟨_, rfl⟩
  obtain ⟨Y, hY⟩ : ∃ Y, (U8 Z32).toArray = Y := ⟨_, rfl⟩
  obtain ⟨V, hV⟩ : ∃ V, (U8 X).toArray = V := ⟨_, rfl⟩
  rw [hC] at hW0 ⊢
  rw [hZ] at hW1 HAL
  rw [hY] at HA2
  rw [hV] at HH
  obtain ⟨nl, hnl⟩ : ∃ nl, L.length = nl := ⟨_, rfl⟩
  have HRD := fun (W : World) (h : IsB W ao cap L) => r6read_any ao cap L W h hL hn
  rw [hnl] at HH HRD ⊢
  obtain ⟨N, hN⟩ : ∃ N, rdNumI L = N := ⟨_, rfl⟩
  rw [hN] at HRD
  have hfw : withF 0 ao cap L = .num N := by rw [← hN]; rfl
  have how : withOk 0 L = decide (N ≥ 0) := by rw [← hN]; rfl
  unfold WithP
  have ff := withF_fits 0 ao cap L
  rw [hfw] at ff
  clear hC hZ
  go_enter Try.func36, Try.ntmps36
  refine wp_seq (wp_region_lit ?_)
  refine st_to (some 3) rfl rfl (ex_box25 (C := C) rfl rfl) ?_
  simp only [Act.put, List.setIfInBounds_toArray, List.set_cons_zero, List.set_cons_succ]
  rw [hW0]
  refine st_to (some 6) rfl rfl (HAL.out _ _ _ rfl) ?_
  simp only [Act.put, List.setIfInBounds_toArray, List.set_cons_zero, List.set_cons_succ]
  rw [hW1, s0]
  refine st_to (some 7) rfl rfl (ex_asg (v := .bool false) rfl rfl) ?_
  simp only [Act.put, List.setIfInBounds_toArray, List.set_cons_zero, List.set_cons_succ]
  refine st_end ?_
  refine wp_seq (wp_region_lit ?_)
  refine st_to (some 12) rfl rfl (ex_mv (v := .slice ao nl cap) rfl rfl) ?_
  simp only [Act.put, List.setIfInBounds_toArray, List.set_cons_zero, List.set_cons_succ]
  refine st_call (some 13) rfl rfl HH (ex_call (f := 68) (vs := [.slice ao nl cap]) rfl (cfHash _) rfl) ?_
  rintro e W2 ⟨rfl, HB2⟩
  refine ⟨_, rfl, ?_⟩
  simp only [Act.put, List.setIfInBounds_toArray, List.set_cons_zero, List.set_cons_succ]
  have R8 := RowAt.new W2 (show Z32.length = 32 from rfl)
  obtain ⟨T8, R8'⟩ := set_row R8 (l' := X) lX
  have B2 := B1.trans (HB2.out.mono B1.size)
  have B3 := (B2.alloc B2.size (.cells (U8 Z32).toArray 22)).grown (grown_setCells W2.heap.size (U8 X).toArray.toList 0 _) (by simp; have := B2.size; omega) (fun k hk => by cases hk; exact B2.size)
  have z2 := HB2.out.size
  have hlt6 := M6.lt
  have Y3 : Below W2.heap.size W2 ((W2.alloc (.cells (U8 Z32).toArray 22)).setCells W2.heap.size 0 (U8 X).toArray.toList) := ((Below.refl _ _).alloc (Nat.le_refl _) _).grown (grown_setCells _ _ _ _) (by simp) (fun k hk => by cases hk; exact Nat.le_refl _)
  obtain ⟨W3, hW3⟩ : ∃ W3, (W2.alloc (.cells (U8 Z32).toArray 22)).setCells W2.heap.size 0 (U8 X).toArray.toList = W3 := ⟨_, rfl⟩
  rw [hW3] at R8' B3 Y3
  have P : Pre w W3 K F W2.heap.size X ao cap L := ⟨(M1.below HB2.out).below Y3, (M6.below HB2.out).below Y3, R8', B3, by omega⟩
  have s22 := size22 lX
  have o22 := all_oneCell_toArray (one_u8 X)
  have I3 := (I1.below HB2.out).below Y3
  rw [hY, hV] at T8 hW3
  rw [hV] at s22 o22
  refine st_to (some 11) rfl rfl (ex_mv (v := .tuple #[.agg V, .bool ok]) rfl rfl) ?_
  simp only [Act.put, List.setIfInBounds_toArray, List.set_cons_zero, List.set_cons_succ]
  refine st_to (some 14) rfl rfl (ex_ext (vs := #[.agg V, .bool ok]) (v := .agg V) rfl rfl rfl) ?_
  simp only [Act.put, List.setIfInBounds_toArray, List.set_cons_zero, List.set_cons_succ]
  refine st_to (some 15) rfl rfl (ex_ext (vs := #[.agg V, .bool ok]) (v := .bool ok) rfl rfl rfl) ?_
  simp only [Act.put, List.setIfInBounds_toArray, List.set_cons_zero, List.set_cons_succ]
  refine st_to (some 8) rfl rfl (HA2.out _ _ _ rfl) ?_
  simp only [Act.put, List.setIfInBounds_toArray, List.set_cons_zero, List.set_cons_succ]
  refine st_store (ty := 22) (x := .tmp 8) (y := .tmp 14) (b := W2.heap.size) (p := 0) (cells := V) rfl rfl rfl rfl rfl T8 s22 o22 ?_
  rw [hW3]
  refine st_to (some 9) rfl rfl (ex_asg (v := .bool ok) rfl rfl) ?_
  simp only [Act.put, List.setIfInBounds_toArray, List.set_cons_zero, List.set_cons_succ]
  refine st_end ?_
  refine wp_seq (wp_region_lit ?_)
  refine st_to (some 16) rfl rfl (ex_mv (v := .slice ao nl cap) rfl rfl) ?_
  simp only [Act.put, List.setIfInBounds_toArray, List.set_cons_zero, List.set_cons_succ]
  refine st_call (some 17) rfl rfl (HRD W3 I3) (ex_call (f := 69) (vs := [.slice ao nl cap]) rfl (cfRead _) rfl) ?_
  rintro e W3' ⟨rfl, hw3⟩
  subst W3'
  refine ⟨_, rfl, ?_⟩
  simp only [Act.put, List.setIfInBounds_toArray, List.set_cons_zero, List.set_cons_succ]
  refine st_to (some 10) rfl rfl (ex_asg (v := .int .i64 N) rfl rfl) ?_
  simp only [Act.put, List.setIfInBounds_toArray, List.set_cons_zero, List.set_cons_succ]
  refine st_end ?_
  refine wp_seq ?_
  refine wp_seq (wp_region_lit ?_)
  refine st_to (some 18) rfl rfl (ex_mv (v := .int .u64 1) rfl rfl) ?_
  simp only [Act.put, List.setIfInBounds_toArray, List.set_cons_zero, List.set_cons_succ]
  refine st_end ?_
  refine wp_block ?_
  refine wp_seq (wp_region_lit ?_)
  refine st_to (some 23) rfl rfl (ex_bin (c := .bool true) rfl rfl rfl (eg36 _ _ _ _ _ _) (eq36 1 1 _)) ?_
  simp only [Act.put, List.setIfInBounds_toArray, List.set_cons_zero, List.set_cons_succ]
  refine st_to (some 22) rfl rfl (ex_asg (v := .bool true) rfl rfl) ?_
  simp only [Act.put, List.setIfInBounds_toArray, List.set_cons_zero, List.set_cons_succ]
  refine st_end ?_
  refine wp_cond_true rfl ?_
  obtain ⟨E1, E2, E3, E4⟩ := P.end_ (i := 0) (by omega) (f := .num N) ff
  have hfit := E1.fits
  have lE := run_loadAt_mid (P := Try.prog) _ w.heap.size 0 25 _ _ E1.range Try.underlying25 rfl (infoLen K hfit)
  have sE := infoSize K hfit
  have oE := oneMsg K (upd F 0 (.num N))
  have HP := hide (fun (tm : Array Value) (W2 : World) (v : Value) (h1 : tm.getD 6 undef = .pointer (some ⟨w.heap.size + 1, 0, none⟩)) (h2 : tm.getD 7 undef = v) (h3 : W2.rangeAt (w.heap.size + 1) 0 (mc K (upd F 0 (.num N)))) => ret_msg2 Try.results36 tm W2 (w.heap.size + 1) K hfit v h1 h2 h3)
  obtain ⟨Q, hQ⟩ : ∃ Q, mc K (upd F 0 (.num N)) = Q := ⟨_, rfl⟩
  rw [hQ] at E2 E3 E4 lE sE oE HP
  have fr : W3.frozen? ⟨w.heap.size, 1, none⟩ = false := P.m.free (i := 0) (by omega)
  obtain ⟨W4, hW4⟩ : ∃ W4, W3.setCells w.heap.size (off 0) (.num N : Fld).cells = W4 := ⟨_, rfl⟩
  rw [hW4] at E1 E2 E3 E4 lE
  obtain ⟨x, hx⟩ := fits_num (hF 0 (by omega)) rfl
  have q := P.m.num (i := 0) (by omega) hx
  have hset : W3.setCell ⟨w.heap.size, 1, none⟩ (.int .i64 N) = W4 := hW4
  refine wp_region_lit ?_
  refine st_to (some 24) rfl rfl (ex_mv (v := .int .i64 N) rfl rfl) ?_
  simp only [Act.put, List.setIfInBounds_toArray, List.set_cons_zero, List.set_cons_succ]
  refine st_to (some 25) rfl rfl (ex_fld rfl rfl (fa1 _ _)) ?_
  simp only [Act.put, List.setIfInBounds_toArray, List.set_cons_zero, List.set_cons_succ]
  refine st_sk rfl rfl (ex_sto3 rfl rfl rfl q fr) ?_
  rw [hset]
  refine st_end ?_
  refine blk_out ?_
  refine wp_seq (wp_region_lit ?_)
  refine st_to (some 75) rfl rfl (ex_load rfl rfl lE) ?_
  simp only [Act.put, List.setIfInBounds_toArray, List.set_cons_zero, List.set_cons_succ]
  refine st_to (some 76) rfl rfl (ex_mv (v := .int .i64 N) rfl rfl) ?_
  simp only [Act.put, List.setIfInBounds_toArray, List.set_cons_zero, List.set_cons_succ]
  refine st_to (some 77) rfl rfl (ex_bin (c := .bool (decide (N ≥ 0))) rfl rfl rfl (eg3' _ _ _ _ _ _) (geq3 _ _ _)) ?_
  simp only [Act.put, List.setIfInBounds_toArray, List.set_cons_zero, List.set_cons_succ]
  refine st_store (ty := 25) (x := .tmp 6) (y := .tmp 75) (b := w.heap.size + 1) (p := 0) (cells := Q.toArray) rfl rfl rfl rfl rfl E2 sE oE ?_
  refine st_to (some 7) rfl rfl (ex_asg (v := .bool (decide (N ≥ 0))) rfl rfl) ?_
  simp only [Act.put, List.setIfInBounds_toArray, List.set_cons_zero, List.set_cons_succ]
  refine st_end ?_
  refine wp_ret ?_
  refine bodyPost_ret (HP.out _ _ (.bool (decide (N ≥ 0))) rfl rfl E3) rfl ⟨by rw [hfw, hQ, how], E4⟩
set_option maxHeartbeats 4000000 in
theorem with1 (K : Int) (F : Nat → Fld) (hF : Fits F) (ao : Option Addr) (cap : Nat) (L : List Int) (w : World) (hI : IsB w ao cap L) (hL : Bytes L) (hn : L.length ≤ 9223372036854775807) :
    Calls Try.prog 36 #[.agg (mc K F).toArray, .int .u64 3, .slice ao L.length cap] w (WithP 1 K F ao cap L w) := by
  have HAL := hide (fun (a : Act) (W : World) (o : Oper) (ho : o.op = .alloc 25) => ex_alloc25 (a := a) (W := W) ho)
  have HA2 := hide (fun (a : Act) (W : World) (o : Oper) (ho : o.op = .alloc 22) => ex_alloc22 (a := a) (W := W) ho)
  obtain ⟨W0, hW0⟩ : ∃ W0, w.alloc (.cells (mc K F).toArray 25) = W0 := ⟨_, rfl⟩
  obtain ⟨W1, hW1⟩ : ∃ W1, W0.alloc (.cells (mc 0 ZF).toArray 25) = W1 := ⟨_, rfl⟩
  have s0 : W0.heap.size = w.heap.size + 1 := by rw [← hW0]; simp
  have M1 : MsgAt W1 w.heap.size K F := by rw [← hW1, ← hW0]; exact (MsgAt.new w K hF).below (below_alloc _ _)
  have M6 : MsgAt W1 (w.heap.size + 1) 0 ZF := by rw [← s0, ← hW1]; exact MsgAt.new W0 0 ZFits
  have B1 : Below w.heap.size w W1 := by rw [← hW1, ← hW0]; exact ((Below.refl _ _).alloc (Nat.le_refl _) _).alloc (by simp) _
  have I1 := hI.below B1
  have HH := hash_any ao cap L W1 I1 hn
  obtain ⟨X, hX⟩ : ∃ X, hashL L = X := ⟨_, rfl⟩
  have lX : X.length = 32 := by rw [← hX]; exact hashL_len L
  rw [hX] at HH
  obtain ⟨ok, hok⟩ : ∃ ok, decide (L.length = 32) = ok := ⟨_, rfl⟩
  rw [hok] at HH
  obtain ⟨C, hC⟩ : ∃ C, (mc K F).toArray = C := ⟨_, rfl⟩
  obtain ⟨Z, hZ⟩ : ∃ Z, (mc 0 ZF).toArray = Z := ⟨_, rfl⟩
  obtain ⟨Y, hY⟩ : ∃ Y, (U8 Z32).toArray = Y := ⟨_, rfl⟩
  obtain ⟨V, hV⟩ : ∃ V, (U8 X).toArray = V := ⟨_, rfl⟩
  rw [hC] at hW0 ⊢
  rw [hZ] at hW1 HAL
  rw [hY] at HA2
  rw [hV] at HH
  obtain ⟨nl, hnl⟩ : ∃ nl, L.length = nl := ⟨_, rfl⟩
  have HRD := fun (W : World) (h : IsB W ao cap L) => r6read_any ao cap L W h hL hn
  rw [hnl] at HH HRD ⊢
  obtain ⟨N, hN⟩ : ∃ N, rdNumI L = N := ⟨_, rfl⟩
  rw [hN] at HRD
  have hfw : withF 1 ao cap L = .num N := by rw [← hN]; rfl
  have how : withOk 1 L = decide (N ≥ 0) := by rw [← hN]; rfl
  unfold WithP
  have ff := withF_fits 1 ao cap L
  rw [hfw] at ff
  clear hC hZ
  go_enter Try.func36, Try.ntmps36
  refine wp_seq (wp_region_lit ?_)
  refine st_to (some 3) rfl rfl (ex_box25 (C := C) rfl rfl) ?_
  simp only [Act.put, List.setIfInBounds_toArray, List.set_cons_zero, List.set_cons_succ]
  rw [hW0]
  refine st_to (some 6) rfl rfl (HAL.out _ _ _ rfl) ?_
  simp only [Act.put, List.setIfInBounds_toArray, List.set_cons_zero, List.set_cons_succ]
  rw [hW1, s0]
  refine st_to (some 7) rfl rfl (ex_asg (v := .bool false) rfl rfl) ?_
  simp only [Act.put, List.setIfInBounds_toArray, List.set_cons_zero, List.set_cons_succ]
  refine st_end ?_
  refine wp_seq (wp_region_lit ?_)
  refine st_to (some 12) rfl rfl (ex_mv (v := .slice ao nl cap) rfl rfl) ?_
  simp only [Act.put, List.setIfInBounds_toArray, List.set_cons_zero, List.set_cons_succ]
  refine st_call (some 13) rfl rfl HH (ex_call (f := 68) (vs := [.slice ao nl cap]) rfl (cfHash _) rfl) ?_
  rintro e W2 ⟨rfl, HB2⟩
  refine ⟨_, rfl, ?_⟩
  simp only [Act.put, List.setIfInBounds_toArray, List.set_cons_zero, List.set_cons_succ]
  have R8 := RowAt.new W2 (show Z32.length = 32 from rfl)
  obtain ⟨T8, R8'⟩ := set_row R8 (l' := X) lX
  have B2 := B1.trans (HB2.out.mono B1.size)
  have B3 := (B2.alloc B2.size (.cells (U8 Z32).toArray 22)).grown (grown_setCells W2.heap.size (U8 X).toArray.toList 0 _) (by simp; have := B2.size; omega) (fun k hk => by cases hk; exact B2.size)
  have z2 := HB2.out.size
  have hlt6 := M6.lt
  have Y3 : Below W2.heap.size W2 ((W2.alloc (.cells (U8 Z32).toArray 22)).setCells W2.heap.size 0 (U8 X).toArray.toList) := ((Below.refl _ _).alloc (Nat.le_refl _) _).grown (grown_setCells _ _ _ _) (by simp) (fun k hk => by cases hk; exact Nat.le_refl _)
  obtain ⟨W3, hW3⟩ : ∃ W3, (W2.alloc (.cells (U8 Z32).toArray 22)).setCells W2.heap.size 0 (U8 X).toArray.toList = W3 := ⟨_, rfl⟩
  rw [hW3] at R8' B3 Y3
  have P : Pre w W3 K F W2.heap.size X ao cap L := ⟨(M1.below HB2.out).below Y3, (M6.below HB2.out).below Y3, R8', B3, by omega⟩
  have s22 := size22 lX
  have o22 := all_oneCell_toArray (one_u8 X)
  have I3 := (I1.below HB2.out).below Y3
  rw [hY, hV] at T8 hW3
  rw [hV] at s22 o22
  refine st_to (some 11) rfl rfl (ex_mv (v := .tuple #[.agg V, .bool ok]) rfl rfl) ?_
  simp only [Act.put, List.setIfInBounds_toArray, List.set_cons_zero, List.set_cons_succ]
  refine st_to (some 14) rfl rfl (ex_ext (vs := #[.agg V, .bool ok]) (v := .agg V) rfl rfl rfl) ?_
  simp only [Act.put, List.setIfInBounds_toArray, List.set_cons_zero, List.set_cons_succ]
  refine st_to (some 15) rfl rfl (ex_ext (vs := #[.agg V, .bool ok]) (v := .bool ok) rfl rfl rfl) ?_
  simp only [Act.put, List.setIfInBounds_toArray, List.set_cons_zero, List.set_cons_succ]
  refine st_to (some 8) rfl rfl (HA2.out _ _ _ rfl) ?_
  simp only [Act.put, List.setIfInBounds_toArray, List.set_cons_zero, List.set_cons_succ]
  refine st_store (ty := 22) (x := .tmp 8) (y := .tmp 14) (b := W2.heap.size) (p := 0) (cells := V) rfl rfl rfl rfl rfl T8 s22 o22 ?_
  rw [hW3]
  refine st_to (some 9) rfl rfl (ex_asg (v := .bool ok) rfl rfl) ?_
  simp only [Act.put, List.setIfInBounds_toArray, List.set_cons_zero, List.set_cons_succ]
  refine st_end ?_
  refine wp_seq (wp_region_lit ?_)
  refine st_to (some 16) rfl rfl (ex_mv (v := .slice ao nl cap) rfl rfl) ?_
  simp only [Act.put, List.setIfInBounds_toArray, List.set_cons_zero, List.set_cons_succ]
  refine st_call (some 17) rfl rfl (HRD W3 I3) (ex_call (f := 69) (vs := [.slice ao nl cap]) rfl (cfRead _) rfl) ?_
  rintro e W3' ⟨rfl, hw3⟩
  subst W3'
  refine ⟨_, rfl, ?_⟩
  simp only [Act.put, List.setIfInBounds_toArray, List.set_cons_zero, List.set_cons_succ]
  refine st_to (some 10) rfl rfl (ex_asg (v := .int .i64 N) rfl rfl) ?_
  simp only [Act.put, List.setIfInBounds_toArray, List.set_cons_zero, List.set_cons_succ]
  refine st_end ?_
  refine wp_seq ?_
  refine wp_seq (wp_region_lit ?_)
  refine st_to (some 18) rfl rfl (ex_mv (v := .int .u64 3) rfl rfl) ?_
  simp only [Act.put, List.setIfInBounds_toArray, List.set_cons_zero, List.set_cons_succ]
  refine st_end ?_
  refine wp_block ?_
  refine wp_seq (wp_region_lit ?_)
  refine st_to (some 23) rfl rfl (ex_bin (c := .bool false) rfl rfl rfl (eg36 _ _ _ _ _ _) (eq36 3 1 _)) ?_
  simp only [Act.put, List.setIfInBounds_toArray, List.set_cons_zero, List.set_cons_succ]
  refine st_to (some 22) rfl rfl (ex_asg (v := .bool false) rfl rfl) ?_
  simp only [Act.put, List.setIfInBounds_toArray, List.set_cons_zero, List.set_cons_succ]
  refine st_end ?_
  refine wp_cond_false rfl ?_
  refine wp_seq (wp_region_lit ?_)
  refine st_to (some 27) rfl rfl (ex_bin (c := .bool true) rfl rfl rfl (eg36 _ _ _ _ _ _) (eq36 3 3 _)) ?_
  simp only [Act.put, List.setIfInBounds_toArray, List.set_cons_zero, List.set_cons_succ]
  refine st_to (some 26) rfl rfl (ex_asg (v := .bool true) rfl rfl) ?_
  simp only [Act.put, List.setIfInBounds_toArray, List.set_cons_zero, List.set_cons_succ]
  refine st_end ?_
  refine wp_cond_true rfl ?_
  obtain ⟨E1, E2, E3, E4⟩ := P.end_ (i := 1) (by omega) (f := .num N) ff
  have hfit := E1.fits
  have lE := run_loadAt_mid (P := Try.prog) _ w.heap.size 0 25 _ _ E1.range Try.underlying25 rfl (infoLen K hfit)
  have sE := infoSize K hfit
  have oE := oneMsg K (upd F 1 (.num N))
  have HP := hide (fun (tm : Array Value) (W2 : World) (v : Value) (h1 : tm.getD 6 undef = .pointer (some ⟨w.heap.size + 1, 0, none⟩)) (h2 : tm.getD 7 undef = v) (h3 : W2.rangeAt (w.heap.size + 1) 0 (mc K (upd F 1 (.num N)))) => ret_msg2 Try.results36 tm W2 (w.heap.size + 1) K hfit v h1 h2 h3)
  obtain ⟨Q, hQ⟩ : ∃ Q, mc K (upd F 1 (.num N)) = Q := ⟨_, rfl⟩
  rw [hQ] at E2 E3 E4 lE sE oE HP
  have fr : W3.frozen? ⟨w.heap.size, 2, none⟩ = false := P.m.free (i := 1) (by omega)
  obtain ⟨W4, hW4⟩ : ∃ W4, W3.setCells w.heap.size (off 1) (.num N : Fld).cells = W4 := ⟨_, rfl⟩
  rw [hW4] at E1 E2 E3 E4 lE
  obtain ⟨x, hx⟩ := fits_num (hF 1 (by omega)) rfl
  have q := P.m.num (i := 1) (by omega) hx
  have hset : W3.setCell ⟨w.heap.size, 2, none⟩ (.int .i64 N) = W4 := hW4
  refine wp_region_lit ?_
  refine st_to (some 28) rfl rfl (ex_mv (v := .int .i64 N) rfl rfl) ?_
  simp only [Act.put, List.setIfInBounds_toArray, List.set_cons_zero, List.set_cons_succ]
  refine st_to (some 29) rfl rfl (ex_fld rfl rfl (fa2 _ _)) ?_
  simp only [Act.put, List.setIfInBounds_toArray, List.set_cons_zero, List.set_cons_succ]
  refine st_sk rfl rfl (ex_sto3 rfl rfl rfl q fr) ?_
  rw [hset]
  refine st_end ?_
  refine blk_out ?_
  refine wp_seq (wp_region_lit ?_)
  refine st_to (some 75) rfl rfl (ex_load rfl rfl lE) ?_
  simp only [Act.put, List.setIfInBounds_toArray, List.set_cons_zero, List.set_cons_succ]
  refine st_to (some 76) rfl rfl (ex_mv (v := .int .i64 N) rfl rfl) ?_
  simp only [Act.put, List.setIfInBounds_toArray, List.set_cons_zero, List.set_cons_succ]
  refine st_to (some 77) rfl rfl (ex_bin (c := .bool (decide (N ≥ 0))) rfl rfl rfl (eg3' _ _ _ _ _ _) (geq3 _ _ _)) ?_
  simp only [Act.put, List.setIfInBounds_toArray, List.set_cons_zero, List.set_cons_succ]
  refine st_store (ty := 25) (x := .tmp 6) (y := .tmp 75) (b := w.heap.size + 1) (p := 0) (cells := Q.toArray) rfl rfl rfl rfl rfl E2 sE oE ?_
  refine st_to (some 7) rfl rfl (ex_asg (v := .bool (decide (N ≥ 0))) rfl rfl) ?_
  simp only [Act.put, List.setIfInBounds_toArray, List.set_cons_zero, List.set_cons_succ]
  refine st_end ?_
  refine wp_ret ?_
  refine bodyPost_ret (HP.out _ _ (.bool (decide (N ≥ 0))) rfl rfl E3) rfl ⟨by rw [hfw, hQ, how], E4⟩
set_option maxHeartbeats 4000000 in
theorem with2 (K : Int) (F : Nat → Fld) (hF : Fits F) (ao : Option Addr) (cap : Nat) (L : List Int) (w : World) (hI : IsB w ao cap L) (hL : Bytes L) (hn : L.length ≤ 9223372036854775807) :
    Calls Try.prog 36 #[.agg (mc K F).toArray, .int .u64 5, .slice ao L.length cap] w (WithP 2 K F ao cap L w) := by
  have HAL := hide (fun (a : Act) (W : World) (o : Oper) (ho : o.op = .alloc 25) => ex_alloc25 (a := a) (W := W) ho)
  have HA2 := hide (fun (a : Act) (W : World) (o : Oper) (ho : o.op = .alloc 22) => ex_alloc22 (a := a) (W := W) ho)
  obtain ⟨W0, hW0⟩ : ∃ W0, w.alloc (.cells (mc K F).toArray 25) = W0 := ⟨_, rfl⟩
  obtain ⟨W1, hW1⟩ : ∃ W1, W0.alloc (.cells (mc 0 ZF).toArray 25) = W1 := ⟨_, rfl⟩
  have s0 : W0.heap.size = w.heap.size + 1 := by rw [← hW0]; simp
  have M1 : MsgAt W1 w.heap.size K F := by rw [← hW1, ← hW0]; exact (MsgAt.new w K hF).below (below_alloc _ _)
  have M6 : MsgAt W1 (w.heap.size + 1) 0 ZF := by rw [← s0, ← hW1]; exact MsgAt.new W0 0 ZFits
  have B1 : Below w.heap.size w W1 := by rw [← hW1, ← hW0]; exact ((Below.refl _ _).alloc (Nat.le_refl _) _).alloc (by simp) _
  have I1 := hI.below B1
  have HH := hash_any ao cap L W1 I1 hn
  obtain ⟨X, hX⟩ : ∃ X, hashL L = X := ⟨_, rfl⟩
  have lX : X.length = 32 := by rw [← hX]; exact hashL_len L
  rw [hX] at HH
  obtain ⟨ok, hok⟩ : ∃ ok, decide (L.length = 32) = ok := ⟨_, rfl⟩
  rw [hok] at HH
  obtain ⟨C, hC⟩ : ∃ C, (mc K F).toArray = C := ⟨_, rfl⟩
  obtain ⟨Z, hZ⟩ : ∃ Z, (mc 0 ZF).toArray = Z := ⟨_, rfl⟩
  obtain ⟨Y, hY⟩ : ∃ Y, (U8 Z32).toArray = Y := ⟨_, rfl⟩
  obtain ⟨V, hV⟩ : ∃ V, (U8 X).toArray = V := ⟨_, rfl⟩
  rw [hC] at hW0 ⊢
  rw [hZ] at hW1 HAL
  rw [hY] at HA2
  rw [hV] at HH
  obtain ⟨nl, hnl⟩ : ∃ nl, L.length = nl := ⟨_, rfl⟩
  have HRD := fun (W : World) (h : IsB W ao cap L) => r6read_any ao cap L W h hL hn
  rw [hnl] at HH HRD ⊢
  obtain ⟨N, hN⟩ : ∃ N, rdNumI L = N := ⟨_, rfl⟩
  rw [hN] at HRD
  have hfw : withF 2 ao cap L = .num N := by rw [← hN]; rfl
  have how : withOk 2 L = decide (N ≥ 0) := by rw [← hN]; rfl
  unfold WithP
  have ff := withF_fits 2 ao cap L
  rw [hfw] at ff
  clear hC hZ
  go_enter Try.func36, Try.ntmps36
  refine wp_seq (wp_region_lit ?_)
  refine st_to (some 3) rfl rfl (ex_box25 (C := C) rfl rfl) ?_
  simp only [Act.put, List.setIfInBounds_toArray, List.set_cons_zero, List.set_cons_succ]
  rw [hW0]
  refine st_to (some 6) rfl rfl (HAL.out _ _ _ rfl) ?_
  simp only [Act.put, List.setIfInBounds_toArray, List.set_cons_zero, List.set_cons_succ]
  rw [hW1, s0]
  refine st_to (some 7) rfl rfl (ex_asg (v := .bool false) rfl rfl) ?_
  simp only [Act.put, List.setIfInBounds_toArray, List.set_cons_zero, List.set_cons_succ]
  refine st_end ?_
  refine wp_seq (wp_region_lit ?_)
  refine st_to (some 12) rfl rfl (ex_mv (v := .slice ao nl cap) rfl rfl) ?_
  simp only [Act.put, List.setIfInBounds_toArray, List.set_cons_zero, List.set_cons_succ]
  refine st_call (some 13) rfl rfl HH (ex_call (f := 68) (vs := [.slice ao nl cap]) rfl (cfHash _) rfl) ?_
  rintro e W2 ⟨rfl, HB2⟩
  refine ⟨_, rfl, ?_⟩
  simp only [Act.put, List.setIfInBounds_toArray, List.set_cons_zero, List.set_cons_succ]
  have R8 := RowAt.new W2 (show Z32.length = 32 from rfl)
  obtain ⟨T8, R8'⟩ := set_row R8 (l' := X) lX
  have B2 := B1.trans (HB2.out.mono B1.size)
  have B3 := (B2.alloc B2.size (.cells (U8 Z32).toArray 22)).grown (grown_setCells W2.heap.size (U8 X).toArray.toList 0 _) (by simp; have := B2.size; omega) (fun k hk => by cases hk; exact B2.size)
  have z2 := HB2.out.size
  have hlt6 := M6.lt
  have Y3 : Below W2.heap.size W2 ((W2.alloc (.cells (U8 Z32).toArray 22)).setCells W2.heap.size 0 (U8 X).toArray.toList) := ((Below.refl _ _).alloc (Nat.le_refl _) _).grown (grown_setCells _ _ _ _) (by simp) (fun k hk => by cases hk; exact Nat.le_refl _)
  obtain ⟨W3, hW3⟩ : ∃ W3, (W2.alloc (.cells (U8 Z32).toArray 22)).setCells W2.heap.size 0 (U8 X).toArray.toList = W3 := ⟨_, rfl⟩
  rw [hW3] at R8' B3 Y3
  have P : Pre w W3 K F W2.heap.size X ao cap L := ⟨(M1.below HB2.out).below Y3, (M6.below HB2.out).below Y3, R8', B3, by omega⟩
  have s22 := size22 lX
  have o22 := all_oneCell_toArray (one_u8 X)
  have I3 := (I1.below HB2.out).below Y3
  rw [hY, hV] at T8 hW3
  rw [hV] at s22 o22
  refine st_to (some 11) rfl rfl (ex_mv (v := .tuple #[.agg V, .bool ok]) rfl rfl) ?_
  simp only [Act.put, List.setIfInBounds_toArray, List.set_cons_zero, List.set_cons_succ]
  refine st_to (some 14) rfl rfl (ex_ext (vs := #[.agg V, .bool ok]) (v := .agg V) rfl rfl rfl) ?_
  simp only [Act.put, List.setIfInBounds_toArray, List.set_cons_zero, List.set_cons_succ]
  refine st_to (some 15) rfl rfl (ex_ext (vs := #[.agg V, .bool ok]) (v := .bool ok) rfl rfl rfl) ?_
  simp only [Act.put, List.setIfInBounds_toArray, List.set_cons_zero, List.set_cons_succ]
  refine st_to (some 8) rfl rfl (HA2.out _ _ _ rfl) ?_
  simp only [Act.put, List.setIfInBounds_toArray, List.set_cons_zero, List.set_cons_succ]
  refine st_store (ty := 22) (x := .tmp 8) (y := .tmp 14) (b := W2.heap.size) (p := 0) (cells := V) rfl rfl rfl rfl rfl T8 s22 o22 ?_
  rw [hW3]
  refine st_to (some 9) rfl rfl (ex_asg (v := .bool ok) rfl rfl) ?_
  simp only [Act.put, List.setIfInBounds_toArray, List.set_cons_zero, List.set_cons_succ]
  refine st_end ?_
  refine wp_seq (wp_region_lit ?_)
  refine st_to (some 16) rfl rfl (ex_mv (v := .slice ao nl cap) rfl rfl) ?_
  simp only [Act.put, List.setIfInBounds_toArray, List.set_cons_zero, List.set_cons_succ]
  refine st_call (some 17) rfl rfl (HRD W3 I3) (ex_call (f := 69) (vs := [.slice ao nl cap]) rfl (cfRead _) rfl) ?_
  rintro e W3' ⟨rfl, hw3⟩
  subst W3'
  refine ⟨_, rfl, ?_⟩
  simp only [Act.put, List.setIfInBounds_toArray, List.set_cons_zero, List.set_cons_succ]
  refine st_to (some 10) rfl rfl (ex_asg (v := .int .i64 N) rfl rfl) ?_
  simp only [Act.put, List.setIfInBounds_toArray, List.set_cons_zero, List.set_cons_succ]
  refine st_end ?_
  refine wp_seq ?_
  refine wp_seq (wp_region_lit ?_)
  refine st_to (some 18) rfl rfl (ex_mv (v := .int .u64 5) rfl rfl) ?_
  simp only [Act.put, List.setIfInBounds_toArray, List.set_cons_zero, List.set_cons_succ]
  refine st_end ?_
  refine wp_block ?_
  refine wp_seq (wp_region_lit ?_)
  refine st_to (some 23) rfl rfl (ex_bin (c := .bool false) rfl rfl rfl (eg36 _ _ _ _ _ _) (eq36 5 1 _)) ?_
  simp only [Act.put, List.setIfInBounds_toArray, List.set_cons_zero, List.set_cons_succ]
  refine st_to (some 22) rfl rfl (ex_asg (v := .bool false) rfl rfl) ?_
  simp only [Act.put, List.setIfInBounds_toArray, List.set_cons_zero, List.set_cons_succ]
  refine st_end ?_
  refine wp_cond_false rfl ?_
  refine wp_seq (wp_region_lit ?_)
  refine st_to (some 27) rfl rfl (ex_bin (c := .bool false) rfl rfl rfl (eg36 _ _ _ _ _ _) (eq36 5 3 _)) ?_
  simp only [Act.put, List.setIfInBounds_toArray, List.set_cons_zero, List.set_cons_succ]
  refine st_to (some 26) rfl rfl (ex_asg (v := .bool false) rfl rfl) ?_
  simp only [Act.put, List.setIfInBounds_toArray, List.set_cons_zero, List.set_cons_succ]
  refine st_end ?_
  refine wp_cond_false rfl ?_
  refine wp_seq (wp_region_lit ?_)
  refine st_to (some 31) rfl rfl (ex_bin (c := .bool true) rfl rfl rfl (eg36 _ _ _ _ _ _) (eq36 5 5 _)) ?_
  simp only [Act.put, List.setIfInBounds_toArray, List.set_cons_zero, List.set_cons_succ]
  refine st_to (some 30) rfl rfl (ex_asg (v := .bool true) rfl rfl) ?_
  simp only [Act.put, List.setIfInBounds_toArray, List.set_cons_zero, List.set_cons_succ]
  refine st_end ?_
  refine wp_cond_true rfl ?_
  obtain ⟨E1, E2, E3, E4⟩ := P.end_ (i := 2) (by omega) (f := .num N) ff
  have hfit := E1.fits
  have lE := run_loadAt_mid (P := Try.prog) _ w.heap.size 0 25 _ _ E1.range Try.underlying25 rfl (infoLen K hfit)
  have sE := infoSize K hfit
  have oE := oneMsg K (upd F 2 (.num N))
  have HP := hide (fun (tm : Array Value) (W2 : World) (v : Value) (h1 : tm.getD 6 undef = .pointer (some ⟨w.heap.size + 1, 0, none⟩)) (h2 : tm.getD 7 undef = v) (h3 : W2.rangeAt (w.heap.size + 1) 0 (mc K (upd F 2 (.num N)))) => ret_msg2 Try.results36 tm W2 (w.heap.size + 1) K hfit v h1 h2 h3)
  obtain ⟨Q, hQ⟩ : ∃ Q, mc K (upd F 2 (.num N)) = Q := ⟨_, rfl⟩
  rw [hQ] at E2 E3 E4 lE sE oE HP
  have fr : W3.frozen? ⟨w.heap.size, 3, none⟩ = false := P.m.free (i := 2) (by omega)
  obtain ⟨W4, hW4⟩ : ∃ W4, W3.setCells w.heap.size (off 2) (.num N : Fld).cells = W4 := ⟨_, rfl⟩
  rw [hW4] at E1 E2 E3 E4 lE
  obtain ⟨x, hx⟩ := fits_num (hF 2 (by omega)) rfl
  have q := P.m.num (i := 2) (by omega) hx
  have hset : W3.setCell ⟨w.heap.size, 3, none⟩ (.int .i64 N) = W4 := hW4
  refine wp_region_lit ?_
  refine st_to (some 32) rfl rfl (ex_mv (v := .int .i64 N) rfl rfl) ?_
  simp only [Act.put, List.setIfInBounds_toArray, List.set_cons_zero, List.set_cons_succ]
  refine st_to (some 33) rfl rfl (ex_fld rfl rfl (fa3 _ _)) ?_
  simp only [Act.put, List.setIfInBounds_toArray, List.set_cons_zero, List.set_cons_succ]
  refine st_sk rfl rfl (ex_sto3 rfl rfl rfl q fr) ?_
  rw [hset]
  refine st_end ?_
  refine blk_out ?_
  refine wp_seq (wp_region_lit ?_)
  refine st_to (some 75) rfl rfl (ex_load rfl rfl lE) ?_
  simp only [Act.put, List.setIfInBounds_toArray, List.set_cons_zero, List.set_cons_succ]
  refine st_to (some 76) rfl rfl (ex_mv (v := .int .i64 N) rfl rfl) ?_
  simp only [Act.put, List.setIfInBounds_toArray, List.set_cons_zero, List.set_cons_succ]
  refine st_to (some 77) rfl rfl (ex_bin (c := .bool (decide (N ≥ 0))) rfl rfl rfl (eg3' _ _ _ _ _ _) (geq3 _ _ _)) ?_
  simp only [Act.put, List.setIfInBounds_toArray, List.set_cons_zero, List.set_cons_succ]
  refine st_store (ty := 25) (x := .tmp 6) (y := .tmp 75) (b := w.heap.size + 1) (p := 0) (cells := Q.toArray) rfl rfl rfl rfl rfl E2 sE oE ?_
  refine st_to (some 7) rfl rfl (ex_asg (v := .bool (decide (N ≥ 0))) rfl rfl) ?_
  simp only [Act.put, List.setIfInBounds_toArray, List.set_cons_zero, List.set_cons_succ]
  refine st_end ?_
  refine wp_ret ?_
  refine bodyPost_ret (HP.out _ _ (.bool (decide (N ≥ 0))) rfl rfl E3) rfl ⟨by rw [hfw, hQ, how], E4⟩
set_option maxHeartbeats 4000000 in
theorem with3 (K : Int) (F : Nat → Fld) (hF : Fits F) (ao : Option Addr) (cap : Nat) (L : List Int) (w : World) (hI : IsB w ao cap L) (hL : Bytes L) (hn : L.length ≤ 9223372036854775807) :
    Calls Try.prog 36 #[.agg (mc K F).toArray, .int .u64 7, .slice ao L.length cap] w (WithP 3 K F ao cap L w) := by
  have HAL := hide (fun (a : Act) (W : World) (o : Oper) (ho : o.op = .alloc 25) => ex_alloc25 (a := a) (W := W) ho)
  have HA2 := hide (fun (a : Act) (W : World) (o : Oper) (ho : o.op = .alloc 22) => ex_alloc22 (a := a) (W := W) ho)
  obtain ⟨W0, hW0⟩ : ∃ W0, w.alloc (.cells (mc K F).toArray 25) = W0 := ⟨_, rfl⟩
  obtain ⟨W1, hW1⟩ : ∃ W1, W0.alloc (.cells (mc 0 ZF).toArray 25) = W1 := ⟨_, rfl⟩
  have s0 : W0.heap.size = w.heap.size + 1 := by rw [← hW0]; simp
  have M1 : MsgAt W1 w.heap.size K F := by rw [← hW1, ← hW0]; exact (MsgAt.new w K hF).below (below_alloc _ _)
  have M6 : MsgAt W1 (w.heap.size + 1) 0 ZF := by rw [← s0, ← hW1]; exact MsgAt.new W0 0 ZFits
  have B1 : Below w.heap.size w W1 := by rw [← hW1, ← hW0]; exact ((Below.refl _ _).alloc (Nat.le_refl _) _).alloc (by simp) _
  have I1 := hI.below B1
  have HH := hash_any ao cap L W1 I1 hn
  obtain ⟨X, hX⟩ : ∃ X, hashL L = X := ⟨_, rfl⟩
  have lX : X.length = 32 := by rw [← hX]; exact hashL_len L
  rw [hX] at HH
  obtain ⟨ok, hok⟩ : ∃ ok, decide (L.length = 32) = ok := ⟨_, rfl⟩
  rw [hok] at HH
  obtain ⟨C, hC⟩ : ∃ C, (mc K F).toArray = C := ⟨_, rfl⟩
  obtain ⟨Z, hZ⟩ : ∃ Z, (mc 0 ZF).toArray = Z := ⟨_, rfl⟩
  obtain ⟨Y, hY⟩ : ∃ Y, (U8 Z32).toArray = Y := ⟨_, rfl⟩
  obtain ⟨V, hV⟩ : ∃ V, (U8 X).toArray = V := ⟨_, rfl⟩
  rw [hC] at hW0 ⊢
  rw [hZ] at hW1 HAL
  rw [hY] at HA2
  rw [hV] at HH
  obtain ⟨nl, hnl⟩ : ∃ nl, L.length = nl := ⟨_, rfl⟩
  have HRD := fun (W : World) (h : IsB W ao cap L) => r6read_any ao cap L W h hL hn
  rw [hnl] at HH HRD ⊢
  obtain ⟨N, hN⟩ : ∃ N, rdNumI L = N := ⟨_, rfl⟩
  rw [hN] at HRD
  have hfw : withF 3 ao cap L = .num N := by rw [← hN]; rfl
  have how : withOk 3 L = decide (N ≥ 0) := by rw [← hN]; rfl
  unfold WithP
  have ff := withF_fits 3 ao cap L
  rw [hfw] at ff
  clear hC hZ
  go_enter Try.func36, Try.ntmps36
  refine wp_seq (wp_region_lit ?_)
  refine st_to (some 3) rfl rfl (ex_box25 (C := C) rfl rfl) ?_
  simp only [Act.put, List.setIfInBounds_toArray, List.set_cons_zero, List.set_cons_succ]
  rw [hW0]
  refine st_to (some 6) rfl rfl (HAL.out _ _ _ rfl) ?_
  simp only [Act.put, List.setIfInBounds_toArray, List.set_cons_zero, List.set_cons_succ]
  rw [hW1, s0]
  refine st_to (some 7) rfl rfl (ex_asg (v := .bool false) rfl rfl) ?_
  simp only [Act.put, List.setIfInBounds_toArray, List.set_cons_zero, List.set_cons_succ]
  refine st_end ?_
  refine wp_seq (wp_region_lit ?_)
  refine st_to (some 12) rfl rfl (ex_mv (v := .slice ao nl cap) rfl rfl) ?_
  simp only [Act.put, List.setIfInBounds_toArray, List.set_cons_zero, List.set_cons_succ]
  refine st_call (some 13) rfl rfl HH (ex_call (f := 68) (vs := [.slice ao nl cap]) rfl (cfHash _) rfl) ?_
  rintro e W2 ⟨rfl, HB2⟩
  refine ⟨_, rfl, ?_⟩
  simp only [Act.put, List.setIfInBounds_toArray, List.set_cons_zero, List.set_cons_succ]
  have R8 := RowAt.new W2 (show Z32.length = 32 from rfl)
  obtain ⟨T8, R8'⟩ := set_row R8 (l' := X) lX
  have B2 := B1.trans (HB2.out.mono B1.size)
  have B3 := (B2.alloc B2.size (.cells (U8 Z32).toArray 22)).grown (grown_setCells W2.heap.size (U8 X).toArray.toList 0 _) (by simp; have := B2.size; omega) (fun k hk => by cases hk; exact B2.size)
  have z2 := HB2.out.size
  have hlt6 := M6.lt
  have Y3 : Below W2.heap.size W2 ((W2.alloc (.cells (U8 Z32).toArray 22)).setCells W2.heap.size 0 (U8 X).toArray.toList) := ((Below.refl _ _).alloc (Nat.le_refl _) _).grown (grown_setCells _ _ _ _) (by simp) (fun k hk => by cases hk; exact Nat.le_refl _)
  obtain ⟨W3, hW3⟩ : ∃ W3, (W2.alloc (.cells (U8 Z32).toArray 22)).setCells W2.heap.size 0 (U8 X).toArray.toList = W3 := ⟨_, rfl⟩
  rw [hW3] at R8' B3 Y3
  have P : Pre w W3 K F W2.heap.size X ao cap L := ⟨(M1.below HB2.out).below Y3, (M6.below HB2.out).below Y3, R8', B3, by omega⟩
  have s22 := size22 lX
  have o22 := all_oneCell_toArray (one_u8 X)
  have I3 := (I1.below HB2.out).below Y3
  rw [hY, hV] at T8 hW3
  rw [hV] at s22 o22
  refine st_to (some 11) rfl rfl (ex_mv (v := .tuple #[.agg V, .bool ok]) rfl rfl) ?_
  simp only [Act.put, List.setIfInBounds_toArray, List.set_cons_zero, List.set_cons_succ]
  refine st_to (some 14) rfl rfl (ex_ext (vs := #[.agg V, .bool ok]) (v := .agg V) rfl rfl rfl) ?_
  simp only [Act.put, List.setIfInBounds_toArray, List.set_cons_zero, List.set_cons_succ]
  refine st_to (some 15) rfl rfl (ex_ext (vs := #[.agg V, .bool ok]) (v := .bool ok) rfl rfl rfl) ?_
  simp only [Act.put, List.setIfInBounds_toArray, List.set_cons_zero, List.set_cons_succ]
  refine st_to (some 8) rfl rfl (HA2.out _ _ _ rfl) ?_
  simp only [Act.put, List.setIfInBounds_toArray, List.set_cons_zero, List.set_cons_succ]
  refine st_store (ty := 22) (x := .tmp 8) (y := .tmp 14) (b := W2.heap.size) (p := 0) (cells := V) rfl rfl rfl rfl rfl T8 s22 o22 ?_
  rw [hW3]
  refine st_to (some 9) rfl rfl (ex_asg (v := .bool ok) rfl rfl) ?_
  simp only [Act.put, List.setIfInBounds_toArray, List.set_cons_zero, List.set_cons_succ]
  refine st_end ?_
  refine wp_seq (wp_region_lit ?_)
  refine st_to (some 16) rfl rfl (ex_mv (v := .slice ao nl cap) rfl rfl) ?_
  simp only [Act.put, List.setIfInBounds_toArray, List.set_cons_zero, List.set_cons_succ]
  refine st_call (some 17) rfl rfl (HRD W3 I3) (ex_call (f := 69) (vs := [.slice ao nl cap]) rfl (cfRead _) rfl) ?_
  rintro e W3' ⟨rfl, hw3⟩
  subst W3'
  refine ⟨_, rfl, ?_⟩
  simp only [Act.put, List.setIfInBounds_toArray, List.set_cons_zero, List.set_cons_succ]
  refine st_to (some 10) rfl rfl (ex_asg (v := .int .i64 N) rfl rfl) ?_
  simp only [Act.put, List.setIfInBounds_toArray, List.set_cons_zero, List.set_cons_succ]
  refine st_end ?_
  refine wp_seq ?_
  refine wp_seq (wp_region_lit ?_)
  refine st_to (some 18) rfl rfl (ex_mv (v := .int .u64 7) rfl rfl) ?_
  simp only [Act.put, List.setIfInBounds_toArray, List.set_cons_zero, List.set_cons_succ]
  refine st_end ?_
  refine wp_block ?_
  refine wp_seq (wp_region_lit ?_)
  refine st_to (some 23) rfl rfl (ex_bin (c := .bool false) rfl rfl rfl (eg36 _ _ _ _ _ _) (eq36 7 1 _)) ?_
  simp only [Act.put, List.setIfInBounds_toArray, List.set_cons_zero, List.set_cons_succ]
  refine st_to (some 22) rfl rfl (ex_asg (v := .bool false) rfl rfl) ?_
  simp only [Act.put, List.setIfInBounds_toArray, List.set_cons_zero, List.set_cons_succ]
  refine st_end ?_
  refine wp_cond_false rfl ?_
  refine wp_seq (wp_region_lit ?_)
  refine st_to (some 27) rfl rfl (ex_bin (c := .bool false) rfl rfl rfl (eg36 _ _ _ _ _ _) (eq36 7 3 _)) ?_
  simp only [Act.put, List.setIfInBounds_toArray, List.set_cons_zero, List.set_cons_succ]
  refine st_to (some 26) rfl rfl (ex_asg (v := .bool false) rfl rfl) ?_
  simp only [Act.put, List.setIfInBounds_toArray, List.set_cons_zero, List.set_cons_succ]
  refine st_end ?_
  refine wp_cond_false rfl ?_
  refine wp_seq (wp_region_lit ?_)
  refine st_to (some 31) rfl rfl (ex_bin (c := .bool false) rfl rfl rfl (eg36 _ _ _ _ _ _) (eq36 7 5 _)) ?_
  simp only [Act.put, List.setIfInBounds_toArray, List.set_cons_zero, List.set_cons_succ]
  refine st_to (some 30) rfl rfl (ex_asg (v := .bool false) rfl rfl) ?_
  simp only [Act.put, List.setIfInBounds_toArray, List.set_cons_zero, List.set_cons_succ]
  refine st_end ?_
  refine wp_cond_false rfl ?_
  refine wp_seq (wp_region_lit ?_)
  refine st_to (some 35) rfl rfl (ex_bin (c := .bool true) rfl rfl rfl (eg36 _ _ _ _ _ _) (eq36 7 7 _)) ?_
  simp only [Act.put, List.setIfInBounds_toArray, List.set_cons_zero, List.set_cons_succ]
  refine st_to (some 34) rfl rfl (ex_asg (v := .bool true) rfl rfl) ?_
  simp only [Act.put, List.setIfInBounds_toArray, List.set_cons_zero, List.set_cons_succ]
  refine st_end ?_
  refine wp_cond_true rfl ?_
  obtain ⟨E1, E2, E3, E4⟩ := P.end_ (i := 3) (by omega) (f := .num N) ff
  have hfit := E1.fits
  have lE := run_loadAt_mid (P := Try.prog) _ w.heap.size 0 25 _ _ E1.range Try.underlying25 rfl (infoLen K hfit)
  have sE := infoSize K hfit
  have oE := oneMsg K (upd F 3 (.num N))
  have HP := hide (fun (tm : Array Value) (W2 : World) (v : Value) (h1 : tm.getD 6 undef = .pointer (some ⟨w.heap.size + 1, 0, none⟩)) (h2 : tm.getD 7 undef = v) (h3 : W2.rangeAt (w.heap.size + 1) 0 (mc K (upd F 3 (.num N)))) => ret_msg2 Try.results36 tm W2 (w.heap.size + 1) K hfit v h1 h2 h3)
  obtain ⟨Q, hQ⟩ : ∃ Q, mc K (upd F 3 (.num N)) = Q := ⟨_, rfl⟩
  rw [hQ] at E2 E3 E4 lE sE oE HP
  have fr : W3.frozen? ⟨w.heap.size, 4, none⟩ = false := P.m.free (i := 3) (by omega)
  obtain ⟨W4, hW4⟩ : ∃ W4, W3.setCells w.heap.size (off 3) (.num N : Fld).cells = W4 := ⟨_, rfl⟩
  rw [hW4] at E1 E2 E3 E4 lE
  obtain ⟨x, hx⟩ := fits_num (hF 3 (by omega)) rfl
  have q := P.m.num (i := 3) (by omega) hx
  have hset : W3.setCell ⟨w.heap.size, 4, none⟩ (.int .i64 N) = W4 := hW4
  refine wp_region_lit ?_
  refine st_to (some 36) rfl rfl (ex_mv (v := .int .i64 N) rfl rfl) ?_
  simp only [Act.put, List.setIfInBounds_toArray, List.set_cons_zero, List.set_cons_succ]
  refine st_to (some 37) rfl rfl (ex_fld rfl rfl (fa4 _ _)) ?_
  simp only [Act.put, List.setIfInBounds_toArray, List.set_cons_zero, List.set_cons_succ]
  refine st_sk rfl rfl (ex_sto3 rfl rfl rfl q fr) ?_
  rw [hset]
  refine st_end ?_
  refine blk_out ?_
  refine wp_seq (wp_region_lit ?_)
  refine st_to (some 75) rfl rfl (ex_load rfl rfl lE) ?_
  simp only [Act.put, List.setIfInBounds_toArray, List.set_cons_zero, List.set_cons_succ]
  refine st_to (some 76) rfl rfl (ex_mv (v := .int .i64 N) rfl rfl) ?_
  simp only [Act.put, List.setIfInBounds_toArray, List.set_cons_zero, List.set_cons_succ]
  refine st_to (some 77) rfl rfl (ex_bin (c := .bool (decide (N ≥ 0))) rfl rfl rfl (eg3' _ _ _ _ _ _) (geq3 _ _ _)) ?_
  simp only [Act.put, List.setIfInBounds_toArray, List.set_cons_zero, List.set_cons_succ]
  refine st_store (ty := 25) (x := .tmp 6) (y := .tmp 75) (b := w.heap.size + 1) (p := 0) (cells := Q.toArray) rfl rfl rfl rfl rfl E2 sE oE ?_
  refine st_to (some 7) rfl rfl (ex_asg (v := .bool (decide (N ≥ 0))) rfl rfl) ?_
  simp only [Act.put, List.setIfInBounds_toArray, List.set_cons_zero, List.set_cons_succ]
  refine st_end ?_
  refine wp_ret ?_
  refine bodyPost_ret (HP.out _ _ (.bool (decide (N ≥ 0))) rfl rfl E3) rfl ⟨by rw [hfw, hQ, how], E4⟩
set_option maxHeartbeats 4000000 in
theorem with4 (K : Int) (F : Nat → Fld) (hF : Fits F) (ao : Option Addr) (cap : Nat) (L : List Int) (w : World) (hI : IsB w ao cap L) (hL : Bytes L) (hn : L.length ≤ 9223372036854775807) :
    Calls Try.prog 36 #[.agg (mc K F).toArray, .int .u64 9, .slice ao L.length cap] w (WithP 4 K F ao cap L w) := by
  have HAL := hide (fun (a : Act) (W : World) (o : Oper) (ho : o.op = .alloc 25) => ex_alloc25 (a := a) (W := W) ho)
  have HA2 := hide (fun (a : Act) (W : World) (o : Oper) (ho : o.op = .alloc 22) => ex_alloc22 (a := a) (W := W) ho)
  obtain ⟨W0, hW0⟩ : ∃ W0, w.alloc (.cells (mc K F).toArray 25) = W0 := ⟨_, rfl⟩
  obtain ⟨W1, hW1⟩ : ∃ W1, W0.alloc (.cells (mc 0 ZF).toArray 25) = W1 := ⟨_, rfl⟩
  have s0 : W0.heap.size = w.heap.size + 1 := by rw [← hW0]; simp
  have M1 : MsgAt W1 w.heap.size K F := by rw [← hW1, ← hW0]; exact (MsgAt.new w K hF).below (below_alloc _ _)
  have M6 : MsgAt W1 (w.heap.size + 1) 0 ZF := by rw [← s0, ← hW1]; exact MsgAt.new W0 0 ZFits
  have B1 : Below w.heap.size w W1 := by rw [← hW1, ← hW0]; exact ((Below.refl _ _).alloc (Nat.le_refl _) _).alloc (by simp) _
  have I1 := hI.below B1
  have HH := hash_any ao cap L W1 I1 hn
  obtain ⟨X, hX⟩ : ∃ X, hashL L = X := ⟨_, rfl⟩
  have lX : X.length = 32 := by rw [← hX]; exact hashL_len L
  rw [hX] at HH
  obtain ⟨ok, hok⟩ : ∃ ok, decide (L.length = 32) = ok := ⟨_, rfl⟩
  rw [hok] at HH
  obtain ⟨C, hC⟩ : ∃ C, (mc K F).toArray = C := ⟨_, rfl⟩
  obtain ⟨Z, hZ⟩ : ∃ Z, (mc 0 ZF).toArray = Z := ⟨_, rfl⟩
  obtain ⟨Y, hY⟩ : ∃ Y, (U8 Z32).toArray = Y := ⟨_, rfl⟩
  obtain ⟨V, hV⟩ : ∃ V, (U8 X).toArray = V := ⟨_, rfl⟩
  rw [hC] at hW0 ⊢
  rw [hZ] at hW1 HAL
  rw [hY] at HA2
  rw [hV] at HH
  obtain ⟨nl, hnl⟩ : ∃ nl, L.length = nl := ⟨_, rfl⟩
  have HRD := fun (W : World) (h : IsB W ao cap L) => r6read_any ao cap L W h hL hn
  rw [hnl] at HH HRD ⊢
  obtain ⟨N, hN⟩ : ∃ N, rdNumI L = N := ⟨_, rfl⟩
  rw [hN] at HRD
  have hfw : withF 4 ao cap L = .arr X := by rw [← hX]; rfl
  have how : withOk 4 L = ok := by rw [← hok]; rfl
  unfold WithP
  have ff := withF_fits 4 ao cap L
  rw [hfw] at ff
  clear hC hZ
  go_enter Try.func36, Try.ntmps36
  refine wp_seq (wp_region_lit ?_)
  refine st_to (some 3) rfl rfl (ex_box25 (C := C) rfl rfl) ?_
  simp only [Act.put, List.setIfInBounds_toArray, List.set_cons_zero, List.set_cons_succ]
  rw [hW0]
  refine st_to (some 6) rfl rfl (HAL.out _ _ _ rfl) ?_
  simp only [Act.put, List.setIfInBounds_toArray, List.set_cons_zero, List.set_cons_succ]
  rw [hW1, s0]
  refine st_to (some 7) rfl rfl (ex_asg (v := .bool false) rfl rfl) ?_
  simp only [Act.put, List.setIfInBounds_toArray, List.set_cons_zero, List.set_cons_succ]
  refine st_end ?_
  refine wp_seq (wp_region_lit ?_)
  refine st_to (some 12) rfl rfl (ex_mv (v := .slice ao nl cap) rfl rfl) ?_
  simp only [Act.put, List.setIfInBounds_toArray, List.set_cons_zero, List.set_cons_succ]
  refine st_call (some 13) rfl rfl HH (ex_call (f := 68) (vs := [.slice ao nl cap]) rfl (cfHash _) rfl) ?_
  rintro e W2 ⟨rfl, HB2⟩
  refine ⟨_, rfl, ?_⟩
  simp only [Act.put, List.setIfInBounds_toArray, List.set_cons_zero, List.set_cons_succ]
  have R8 := RowAt.new W2 (show Z32.length = 32 from rfl)
  obtain ⟨T8, R8'⟩ := set_row R8 (l' := X) lX
  have B2 := B1.trans (HB2.out.mono B1.size)
  have B3 := (B2.alloc B2.size (.cells (U8 Z32).toArray 22)).grown (grown_setCells W2.heap.size (U8 X).toArray.toList 0 _) (by simp; have := B2.size; omega) (fun k hk => by cases hk; exact B2.size)
  have z2 := HB2.out.size
  have hlt6 := M6.lt
  have Y3 : Below W2.heap.size W2 ((W2.alloc (.cells (U8 Z32).toArray 22)).setCells W2.heap.size 0 (U8 X).toArray.toList) := ((Below.refl _ _).alloc (Nat.le_refl _) _).grown (grown_setCells _ _ _ _) (by simp) (fun k hk => by cases hk; exact Nat.le_refl _)
  obtain ⟨W3, hW3⟩ : ∃ W3, (W2.alloc (.cells (U8 Z32).toArray 22)).setCells W2.heap.size 0 (U8 X).toArray.toList = W3 := ⟨_, rfl⟩
  rw [hW3] at R8' B3 Y3
  have P : Pre w W3 K F W2.heap.size X ao cap L := ⟨(M1.below HB2.out).below Y3, (M6.below HB2.out).below Y3, R8', B3, by omega⟩
  have s22 := size22 lX
  have o22 := all_oneCell_toArray (one_u8 X)
  have I3 := (I1.below HB2.out).below Y3
  rw [hY, hV] at T8 hW3
  rw [hV] at s22 o22
  refine st_to (some 11) rfl rfl (ex_mv (v := .tuple #[.agg V, .bool ok]) rfl rfl) ?_
  simp only [Act.put, List.setIfInBounds_toArray, List.set_cons_zero, List.set_cons_succ]
  refine st_to (some 14) rfl rfl (ex_ext (vs := #[.agg V, .bool ok]) (v := .agg V) rfl rfl rfl) ?_
  simp only [Act.put, List.setIfInBounds_toArray, List.set_cons_zero, List.set_cons_succ]
  refine st_to (some 15) rfl rfl (ex_ext (vs := #[.agg V, .bool ok]) (v := .bool ok) rfl rfl rfl) ?_
  simp only [Act.put, List.setIfInBounds_toArray, List.set_cons_zero, List.set_cons_succ]
  refine st_to (some 8) rfl rfl (HA2.out _ _ _ rfl) ?_
  simp only [Act.put, List.setIfInBounds_toArray, List.set_cons_zero, List.set_cons_succ]
  refine st_store (ty := 22) (x := .tmp 8) (y := .tmp 14) (b := W2.heap.size) (p := 0) (cells := V) rfl rfl rfl rfl rfl T8 s22 o22 ?_
  rw [hW3]
  refine st_to (some 9) rfl rfl (ex_asg (v := .bool ok) rfl rfl) ?_
  simp only [Act.put, List.setIfInBounds_toArray, List.set_cons_zero, List.set_cons_succ]
  refine st_end ?_
  refine wp_seq (wp_region_lit ?_)
  refine st_to (some 16) rfl rfl (ex_mv (v := .slice ao nl cap) rfl rfl) ?_
  simp only [Act.put, List.setIfInBounds_toArray, List.set_cons_zero, List.set_cons_succ]
  refine st_call (some 17) rfl rfl (HRD W3 I3) (ex_call (f := 69) (vs := [.slice ao nl cap]) rfl (cfRead _) rfl) ?_
  rintro e W3' ⟨rfl, hw3⟩
  subst W3'
  refine ⟨_, rfl, ?_⟩
  simp only [Act.put, List.setIfInBounds_toArray, List.set_cons_zero, List.set_cons_succ]
  refine st_to (some 10) rfl rfl (ex_asg (v := .int .i64 N) rfl rfl) ?_
  simp only [Act.put, List.setIfInBounds_toArray, List.set_cons_zero, List.set_cons_succ]
  refine st_end ?_
  refine wp_seq ?_
  refine wp_seq (wp_region_lit ?_)
  refine st_to (some 18) rfl rfl (ex_mv (v := .int .u64 9) rfl rfl) ?_
  simp only [Act.put, List.setIfInBounds_toArray, List.set_cons_zero, List.set_cons_succ]
  refine st_end ?_
  refine wp_block ?_
  refine wp_seq (wp_region_lit ?_)
  refine st_to (some 23) rfl rfl (ex_bin (c := .bool false) rfl rfl rfl (eg36 _ _ _ _ _ _) (eq36 9 1 _)) ?_
  simp only [Act.put, List.setIfInBounds_toArray, List.set_cons_zero, List.set_cons_succ]
  refine st_to (some 22) rfl rfl (ex_asg (v := .bool false) rfl rfl) ?_
  simp only [Act.put, List.setIfInBounds_toArray, List.set_cons_zero, List.set_cons_succ]
  refine st_end ?_
  refine wp_cond_false rfl ?_
  refine wp_seq (wp_region_lit ?_)
  refine st_to (some 27) rfl rfl (ex_bin (c := .bool false) rfl rfl rfl (eg36 _ _ _ _ _ _) (eq36 9 3 _)) ?_
  simp only [Act.put, List.setIfInBounds_toArray, List.set_cons_zero, List.set_cons_succ]
  refine st_to (some 26) rfl rfl (ex_asg (v := .bool false) rfl rfl) ?_
  simp only [Act.put, List.setIfInBounds_toArray, List.set_cons_zero, List.set_cons_succ]
  refine st_end ?_
  refine wp_cond_false rfl ?_
  refine wp_seq (wp_region_lit ?_)
  refine st_to (some 31) rfl rfl (ex_bin (c := .bool false) rfl rfl rfl (eg36 _ _ _ _ _ _) (eq36 9 5 _)) ?_
  simp only [Act.put, List.setIfInBounds_toArray, List.set_cons_zero, List.set_cons_succ]
  refine st_to (some 30) rfl rfl (ex_asg (v := .bool false) rfl rfl) ?_
  simp only [Act.put, List.setIfInBounds_toArray, List.set_cons_zero, List.set_cons_succ]
  refine st_end ?_
  refine wp_cond_false rfl ?_
  refine wp_seq (wp_region_lit ?_)
  refine st_to (some 35) rfl rfl (ex_bin (c := .bool false) rfl rfl rfl (eg36 _ _ _ _ _ _) (eq36 9 7 _)) ?_
  simp only [Act.put, List.setIfInBounds_toArray, List.set_cons_zero, List.set_cons_succ]
  refine st_to (some 34) rfl rfl (ex_asg (v := .bool false) rfl rfl) ?_
  simp only [Act.put, List.setIfInBounds_toArray, List.set_cons_zero, List.set_cons_succ]
  refine st_end ?_
  refine wp_cond_false rfl ?_
  refine wp_seq (wp_region_lit ?_)
  refine st_to (some 39) rfl rfl (ex_bin (c := .bool true) rfl rfl rfl (eg36 _ _ _ _ _ _) (eq36 9 9 _)) ?_
  simp only [Act.put, List.setIfInBounds_toArray, List.set_cons_zero, List.set_cons_succ]
  refine st_to (some 38) rfl rfl (ex_asg (v := .bool true) rfl rfl) ?_
  simp only [Act.put, List.setIfInBounds_toArray, List.set_cons_zero, List.set_cons_succ]
  refine st_end ?_
  refine wp_cond_true rfl ?_
  obtain ⟨E1, E2, E3, E4⟩ := P.end_ (i := 4) (by omega) (f := .arr X) ff
  have hfit := E1.fits
  have lE := run_loadAt_mid (P := Try.prog) _ w.heap.size 0 25 _ _ E1.range Try.underlying25 rfl (infoLen K hfit)
  have sE := infoSize K hfit
  have oE := oneMsg K (upd F 4 (.arr X))
  have HP := hide (fun (tm : Array Value) (W2 : World) (v : Value) (h1 : tm.getD 6 undef = .pointer (some ⟨w.heap.size + 1, 0, none⟩)) (h2 : tm.getD 7 undef = v) (h3 : W2.rangeAt (w.heap.size + 1) 0 (mc K (upd F 4 (.arr X)))) => ret_msg2 Try.results36 tm W2 (w.heap.size + 1) K hfit v h1 h2 h3)
  obtain ⟨Q, hQ⟩ : ∃ Q, mc K (upd F 4 (.arr X)) = Q := ⟨_, rfl⟩
  rw [hQ] at E2 E3 E4 lE sE oE HP
  have fr : W3.frozen? ⟨w.heap.size, 5, none⟩ = false := P.m.free (i := 4) (by omega)
  obtain ⟨W4, hW4⟩ : ∃ W4, W3.setCells w.heap.size (off 4) (.arr X : Fld).cells = W4 := ⟨_, rfl⟩
  rw [hW4] at E1 E2 E3 E4 lE
  have lX8 := P.x.load
  rw [hV] at lX8
  have T5 : W3.there w.heap.size 5 V.size := by rw [← hV, show (U8 X).toArray.size = 32 by simp [U8_length, lX]]; exact P.m.may (i := 4) (by omega)
  have hset : W3.setCells w.heap.size 5 V.toList = W4 := by rw [← hW4, ← hV]; rfl
  refine wp_seq (wp_region_lit ?_)
  refine st_to (some 40) rfl rfl (ex_load rfl rfl lX8) ?_
  simp only [Act.put, List.setIfInBounds_toArray, List.set_cons_zero, List.set_cons_succ]
  refine st_to (some 41) rfl rfl (ex_fld rfl rfl (fa5 _ _)) ?_
  simp only [Act.put, List.setIfInBounds_toArray, List.set_cons_zero, List.set_cons_succ]
  refine st_store (ty := 22) (x := .tmp 41) (y := .tmp 40) (b := w.heap.size) (p := 5) (cells := V) rfl rfl rfl rfl rfl T5 s22 o22 ?_
  rw [hset]
  refine st_end ?_
  refine wp_seq (wp_region_lit ?_)
  refine st_to (some 42) rfl rfl (ex_load rfl rfl lE) ?_
  simp only [Act.put, List.setIfInBounds_toArray, List.set_cons_zero, List.set_cons_succ]
  refine st_to (some 43) rfl rfl (ex_mv (v := .bool ok) rfl rfl) ?_
  simp only [Act.put, List.setIfInBounds_toArray, List.set_cons_zero, List.set_cons_succ]
  refine st_store (ty := 25) (x := .tmp 6) (y := .tmp 42) (b := w.heap.size + 1) (p := 0) (cells := Q.toArray) rfl rfl rfl rfl rfl E2 sE oE ?_
  refine st_to (some 7) rfl rfl (ex_asg (v := .bool ok) rfl rfl) ?_
  simp only [Act.put, List.setIfInBounds_toArray, List.set_cons_zero, List.set_cons_succ]
  refine st_end ?_
  refine wp_ret ?_
  refine blk_ret ?_
  refine bodyPost_ret (HP.out _ _ (.bool ok) rfl rfl E3) rfl ⟨by rw [hfw, hQ, how], E4⟩
set_option maxHeartbeats 4000000 in
theorem with5 (K : Int) (F : Nat → Fld) (hF : Fits F) (ao : Option Addr) (cap : Nat) (L : List Int) (w : World) (hI : IsB w ao cap L) (hL : Bytes L) (hn : L.length ≤ 9223372036854775807) :
    Calls Try.prog 36 #[.agg (mc K F).toArray, .int .u64 11, .slice ao L.length cap] w (WithP 5 K F ao cap L w) := by
  have HAL := hide (fun (a : Act) (W : World) (o : Oper) (ho : o.op = .alloc 25) => ex_alloc25 (a := a) (W := W) ho)
  have HA2 := hide (fun (a : Act) (W : World) (o : Oper) (ho : o.op = .alloc 22) => ex_alloc22 (a := a) (W := W) ho)
  obtain ⟨W0, hW0⟩ : ∃ W0, w.alloc (.cells (mc K F).toArray 25) = W0 := ⟨_, rfl⟩
  obtain ⟨W1, hW1⟩ : ∃ W1, W0.alloc (.cells (mc 0 ZF).toArray 25) = W1 := ⟨_, rfl⟩
  have s0 : W0.heap.size = w.heap.size + 1 := by rw [← hW0]; simp
  have M1 : MsgAt W1 w.heap.size K F := by rw [← hW1, ← hW0]; exact (MsgAt.new w K hF).below (below_alloc _ _)
  have M6 : MsgAt W1 (w.heap.size + 1) 0 ZF := by rw [← s0, ← hW1]; exact MsgAt.new W0 0 ZFits
  have B1 : Below w.heap.size w W1 := by rw [← hW1, ← hW0]; exact ((Below.refl _ _).alloc (Nat.le_refl _) _).alloc (by simp) _
  have I1 := hI.below B1
  have HH := hash_any ao cap L W1 I1 hn
  obtain ⟨X, hX⟩ : ∃ X, hashL L = X := ⟨_, rfl⟩
  have lX : X.length = 32 := by rw [← hX]; exact hashL_len L
  rw [hX] at HH
  obtain ⟨ok, hok⟩ : ∃ ok, decide (L.length = 32) = ok := ⟨_, rfl⟩
  rw [hok] at HH
  obtain ⟨C, hC⟩ : ∃ C, (mc K F).toArray = C := ⟨_, rfl⟩
  obtain ⟨Z, hZ⟩ : ∃ Z, (mc 0 ZF).toArray = Z := ⟨_, rfl⟩
  obtain ⟨Y, hY⟩ : ∃ Y, (U8 Z32).toArray = Y := ⟨_, rfl⟩
  obtain ⟨V, hV⟩ : ∃ V, (U8 X).toArray = V := ⟨_, rfl⟩
  rw [hC] at hW0 ⊢
  rw [hZ] at hW1 HAL
  rw [hY] at HA2
  rw [hV] at HH
  obtain ⟨nl, hnl⟩ : ∃ nl, L.length = nl := ⟨_, rfl⟩
  have HRD := fun (W : World) (h : IsB W ao cap L) => r6read_any ao cap L W h hL hn
  rw [hnl] at HH HRD ⊢
  obtain ⟨N, hN⟩ : ∃ N, rdNumI L = N := ⟨_, rfl⟩
  rw [hN] at HRD
  have hfw : withF 5 ao cap L = .lst ao cap L := by rfl
  have how : withOk 5 L = true := by rfl
  unfold WithP
  have ff := withF_fits 5 ao cap L
  rw [hfw] at ff
  clear hC hZ
  go_enter Try.func36, Try.ntmps36
  refine wp_seq (wp_region_lit ?_)
  refine st_to (some 3) rfl rfl (ex_box25 (C := C) rfl rfl) ?_
  simp only [Act.put, List.setIfInBounds_toArray, List.set_cons_zero, List.set_cons_succ]
  rw [hW0]
  refine st_to (some 6) rfl rfl (HAL.out _ _ _ rfl) ?_
  simp only [Act.put, List.setIfInBounds_toArray, List.set_cons_zero, List.set_cons_succ]
  rw [hW1, s0]
  refine st_to (some 7) rfl rfl (ex_asg (v := .bool false) rfl rfl) ?_
  simp only [Act.put, List.setIfInBounds_toArray, List.set_cons_zero, List.set_cons_succ]
  refine st_end ?_
  refine wp_seq (wp_region_lit ?_)
  refine st_to (some 12) rfl rfl (ex_mv (v := .slice ao nl cap) rfl rfl) ?_
  simp only [Act.put, List.setIfInBounds_toArray, List.set_cons_zero, List.set_cons_succ]
  refine st_call (some 13) rfl rfl HH (ex_call (f := 68) (vs := [.slice ao nl cap]) rfl (cfHash _) rfl) ?_
  rintro e W2 ⟨rfl, HB2⟩
  refine ⟨_, rfl, ?_⟩
  simp only [Act.put, List.setIfInBounds_toArray, List.set_cons_zero, List.set_cons_succ]
  have R8 := RowAt.new W2 (show Z32.length = 32 from rfl)
  obtain ⟨T8, R8'⟩ := set_row R8 (l' := X) lX
  have B2 := B1.trans (HB2.out.mono B1.size)
  have B3 := (B2.alloc B2.size (.cells (U8 Z32).toArray 22)).grown (grown_setCells W2.heap.size (U8 X).toArray.toList 0 _) (by simp; have := B2.size; omega) (fun k hk => by cases hk; exact B2.size)
  have z2 := HB2.out.size
  have hlt6 := M6.lt
  have Y3 : Below W2.heap.size W2 ((W2.alloc (.cells (U8 Z32).toArray 22)).setCells W2.heap.size 0 (U8 X).toArray.toList) := ((Below.refl _ _).alloc (Nat.le_refl _) _).grown (grown_setCells _ _ _ _) (by simp) (fun k hk => by cases hk; exact Nat.le_refl _)
  obtain ⟨W3, hW3⟩ : ∃ W3, (W2.alloc (.cells (U8 Z32).toArray 22)).setCells W2.heap.size 0 (U8 X).toArray.toList = W3 := ⟨_, rfl⟩
  rw [hW3] at R8' B3 Y3
  have P : Pre w W3 K F W2.heap.size X ao cap L := ⟨(M1.below HB2.out).below Y3, (M6.below HB2.out).below Y3, R8', B3, by omega⟩
  have s22 := size22 lX
  have o22 := all_oneCell_toArray (one_u8 X)
  have I3 := (I1.below HB2.out).below Y3
  rw [hY, hV] at T8 hW3
  rw [hV] at s22 o22
  refine st_to (some 11) rfl rfl (ex_mv (v := .tuple #[.agg V, .bool ok]) rfl rfl) ?_
  simp only [Act.put, List.setIfInBounds_toArray, List.set_cons_zero, List.set_cons_succ]
  refine st_to (some 14) rfl rfl (ex_ext (vs := #[.agg V, .bool ok]) (v := .agg V) rfl rfl rfl) ?_
  simp only [Act.put, List.setIfInBounds_toArray, List.set_cons_zero, List.set_cons_succ]
  refine st_to (some 15) rfl rfl (ex_ext (vs := #[.agg V, .bool ok]) (v := .bool ok) rfl rfl rfl) ?_
  simp only [Act.put, List.setIfInBounds_toArray, List.set_cons_zero, List.set_cons_succ]
  refine st_to (some 8) rfl rfl (HA2.out _ _ _ rfl) ?_
  simp only [Act.put, List.setIfInBounds_toArray, List.set_cons_zero, List.set_cons_succ]
  refine st_store (ty := 22) (x := .tmp 8) (y := .tmp 14) (b := W2.heap.size) (p := 0) (cells := V) rfl rfl rfl rfl rfl T8 s22 o22 ?_
  rw [hW3]
  refine st_to (some 9) rfl rfl (ex_asg (v := .bool ok) rfl rfl) ?_
  simp only [Act.put, List.setIfInBounds_toArray, List.set_cons_zero, List.set_cons_succ]
  refine st_end ?_
  refine wp_seq (wp_region_lit ?_)
  refine st_to (some 16) rfl rfl (ex_mv (v := .slice ao nl cap) rfl rfl) ?_
  simp only [Act.put, List.setIfInBounds_toArray, List.set_cons_zero, List.set_cons_succ]
  refine st_call (some 17) rfl rfl (HRD W3 I3) (ex_call (f := 69) (vs := [.slice ao nl cap]) rfl (cfRead _) rfl) ?_
  rintro e W3' ⟨rfl, hw3⟩
  subst W3'
  refine ⟨_, rfl, ?_⟩
  simp only [Act.put, List.setIfInBounds_toArray, List.set_cons_zero, List.set_cons_succ]
  refine st_to (some 10) rfl rfl (ex_asg (v := .int .i64 N) rfl rfl) ?_
  simp only [Act.put, List.setIfInBounds_toArray, List.set_cons_zero, List.set_cons_succ]
  refine st_end ?_
  refine wp_seq ?_
  refine wp_seq (wp_region_lit ?_)
  refine st_to (some 18) rfl rfl (ex_mv (v := .int .u64 11) rfl rfl) ?_
  simp only [Act.put, List.setIfInBounds_toArray, List.set_cons_zero, List.set_cons_succ]
  refine st_end ?_
  refine wp_block ?_
  refine wp_seq (wp_region_lit ?_)
  refine st_to (some 23) rfl rfl (ex_bin (c := .bool false) rfl rfl rfl (eg36 _ _ _ _ _ _) (eq36 11 1 _)) ?_
  simp only [Act.put, List.setIfInBounds_toArray, List.set_cons_zero, List.set_cons_succ]
  refine st_to (some 22) rfl rfl (ex_asg (v := .bool false) rfl rfl) ?_
  simp only [Act.put, List.setIfInBounds_toArray, List.set_cons_zero, List.set_cons_succ]
  refine st_end ?_
  refine wp_cond_false rfl ?_
  refine wp_seq (wp_region_lit ?_)
  refine st_to (some 27) rfl rfl (ex_bin (c := .bool false) rfl rfl rfl (eg36 _ _ _ _ _ _) (eq36 11 3 _)) ?_
  simp only [Act.put, List.setIfInBounds_toArray, List.set_cons_zero, List.set_cons_succ]
  refine st_to (some 26) rfl rfl (ex_asg (v := .bool false) rfl rfl) ?_
  simp only [Act.put, List.setIfInBounds_toArray, List.set_cons_zero, List.set_cons_succ]
  refine st_end ?_
  refine wp_cond_false rfl ?_
  refine wp_seq (wp_region_lit ?_)
  refine st_to (some 31) rfl rfl (ex_bin (c := .bool false) rfl rfl rfl (eg36 _ _ _ _ _ _) (eq36 11 5 _)) ?_
  simp only [Act.put, List.setIfInBounds_toArray, List.set_cons_zero, List.set_cons_succ]
  refine st_to (some 30) rfl rfl (ex_asg (v := .bool false) rfl rfl) ?_
  simp only [Act.put, List.setIfInBounds_toArray, List.set_cons_zero, List.set_cons_succ]
  refine st_end ?_
  refine wp_cond_false rfl ?_
  refine wp_seq (wp_region_lit ?_)
  refine st_to (some 35) rfl rfl (ex_bin (c := .bool false) rfl rfl rfl (eg36 _ _ _ _ _ _) (eq36 11 7 _)) ?_
  simp only [Act.put, List.setIfInBounds_toArray, List.set_cons_zero, List.set_cons_succ]
  refine st_to (some 34) rfl rfl (ex_asg (v := .bool false) rfl rfl) ?_
  simp only [Act.put, List.setIfInBounds_toArray, List.set_cons_zero, List.set_cons_succ]
  refine st_end ?_
  refine wp_cond_false rfl ?_
  refine wp_seq (wp_region_lit ?_)
  refine st_to (some 39) rfl rfl (ex_bin (c := .bool false) rfl rfl rfl (eg36 _ _ _ _ _ _) (eq36 11 9 _)) ?_
  simp only [Act.put, List.setIfInBounds_toArray, List.set_cons_zero, List.set_cons_succ]
  refine st_to (some 38) rfl rfl (ex_asg (v := .bool false) rfl rfl) ?_
  simp only [Act.put, List.setIfInBounds_toArray, List.set_cons_zero, List.set_cons_succ]
  refine st_end ?_
  refine wp_cond_false rfl ?_
  refine wp_seq (wp_region_lit ?_)
  refine st_to (some 45) rfl rfl (ex_bin (c := .bool true) rfl rfl rfl (eg36 _ _ _ _ _ _) (eq36 11 11 _)) ?_
  simp only [Act.put, List.setIfInBounds_toArray, List.set_cons_zero, List.set_cons_succ]
  refine st_to (some 44) rfl rfl (ex_asg (v := .bool true) rfl rfl) ?_
  simp only [Act.put, List.setIfInBounds_toArray, List.set_cons_zero, List.set_cons_succ]
  refine st_end ?_
  refine wp_cond_true rfl ?_
  obtain ⟨E1, E2, E3, E4⟩ := P.end_ (i := 5) (by omega) (f := .lst ao cap L) ff
  have hfit := E1.fits
  have lE := run_loadAt_mid (P := Try.prog) _ w.heap.size 0 25 _ _ E1.range Try.underlying25 rfl (infoLen K hfit)
  have sE := infoSize K hfit
  have oE := oneMsg K (upd F 5 (.lst ao cap L))
  have HP := hide (fun (tm : Array Value) (W2 : World) (v : Value) (h1 : tm.getD 6 undef = .pointer (some ⟨w.heap.size + 1, 0, none⟩)) (h2 : tm.getD 7 undef = v) (h3 : W2.rangeAt (w.heap.size + 1) 0 (mc K (upd F 5 (.lst ao cap L)))) => ret_msg2 Try.results36 tm W2 (w.heap.size + 1) K hfit v h1 h2 h3)
  obtain ⟨Q, hQ⟩ : ∃ Q, mc K (upd F 5 (.lst ao cap L)) = Q := ⟨_, rfl⟩
  rw [hQ] at E2 E3 E4 lE sE oE HP
  have fr : W3.frozen? ⟨w.heap.size, 37, none⟩ = false := P.m.free (i := 5) (by omega)
  obtain ⟨W4, hW4⟩ : ∃ W4, W3.setCells w.heap.size (off 5) (.lst ao cap L : Fld).cells = W4 := ⟨_, rfl⟩
  rw [hW4] at E1 E2 E3 E4 lE
  obtain ⟨xa, xc, xl, hx⟩ := fits_lst (hF 5 (by omega)) rfl
  have q := P.m.lst (i := 5) (by omega) hx
  have hset : W3.setCell ⟨w.heap.size, 37, none⟩ (.slice ao nl cap) = W4 := by rw [← hW4, ← hnl]; rfl
  refine wp_seq (wp_region_lit ?_)
  refine st_to (some 46) rfl rfl (ex_mv (v := .slice ao nl cap) rfl rfl) ?_
  simp only [Act.put, List.setIfInBounds_toArray, List.set_cons_zero, List.set_cons_succ]
  refine st_to (some 47) rfl rfl (ex_fld rfl rfl (fa6 _ _)) ?_
  simp only [Act.put, List.setIfInBounds_toArray, List.set_cons_zero, List.set_cons_succ]
  refine st_sk rfl rfl (ex_sto23 rfl rfl rfl q fr) ?_
  rw [hset]
  refine st_end ?_
  refine wp_seq (wp_region_lit ?_)
  refine st_to (some 48) rfl rfl (ex_load rfl rfl lE) ?_
  simp only [Act.put, List.setIfInBounds_toArray, List.set_cons_zero, List.set_cons_succ]
  refine st_store (ty := 25) (x := .tmp 6) (y := .tmp 48) (b := w.heap.size + 1) (p := 0) (cells := Q.toArray) rfl rfl rfl rfl rfl E2 sE oE ?_
  refine st_to (some 7) rfl rfl (ex_asg (v := .bool true) rfl rfl) ?_
  simp only [Act.put, List.setIfInBounds_toArray, List.set_cons_zero, List.set_cons_succ]
  refine st_end ?_
  refine wp_ret ?_
  refine blk_ret ?_
  refine bodyPost_ret (HP.out _ _ (.bool true) rfl rfl E3) rfl ⟨by rw [hfw, hQ, how], E4⟩
set_option maxHeartbeats 4000000 in
theorem with6 (K : Int) (F : Nat → Fld) (hF : Fits F) (ao : Option Addr) (cap : Nat) (L : List Int) (w : World) (hI : IsB w ao cap L) (hL : Bytes L) (hn : L.length ≤ 9223372036854775807) :
    Calls Try.prog 36 #[.agg (mc K F).toArray, .int .u64 13, .slice ao L.length cap] w (WithP 6 K F ao cap L w) := by
  have HAL := hide (fun (a : Act) (W : World) (o : Oper) (ho : o.op = .alloc 25) => ex_alloc25 (a := a) (W := W) ho)
  have HA2 := hide (fun (a : Act) (W : World) (o : Oper) (ho : o.op = .alloc 22) => ex_alloc22 (a := a) (W := W) ho)
  obtain ⟨W0, hW0⟩ : ∃ W0, w.alloc (.cells (mc K F).toArray 25) = W0 := ⟨_, rfl⟩
  obtain ⟨W1, hW1⟩ : ∃ W1, W0.alloc (.cells (mc 0 ZF).toArray 25) = W1 := ⟨_, rfl⟩
  have s0 : W0.heap.size = w.heap.size + 1 := by rw [← hW0]; simp
  have M1 : MsgAt W1 w.heap.size K F := by rw [← hW1, ← hW0]; exact (MsgAt.new w K hF).below (below_alloc _ _)
  have M6 : MsgAt W1 (w.heap.size + 1) 0 ZF := by rw [← s0, ← hW1]; exact MsgAt.new W0 0 ZFits
  have B1 : Below w.heap.size w W1 := by rw [← hW1, ← hW0]; exact ((Below.refl _ _).alloc (Nat.le_refl _) _).alloc (by simp) _
  have I1 := hI.below B1
  have HH := hash_any ao cap L W1 I1 hn
  obtain ⟨X, hX⟩ : ∃ X, hashL L = X := ⟨_, rfl⟩
  have lX : X.length = 32 := by rw [← hX]; exact hashL_len L
  rw [hX] at HH
  obtain ⟨ok, hok⟩ : ∃ ok, decide (L.length = 32) = ok := ⟨_, rfl⟩
  rw [hok] at HH
  obtain ⟨C, hC⟩ : ∃ C, (mc K F).toArray = C := ⟨_, rfl⟩
  obtain ⟨Z, hZ⟩ : ∃ Z, (mc 0 ZF).toArray = Z := ⟨_, rfl⟩
  obtain ⟨Y, hY⟩ : ∃ Y, (U8 Z32).toArray = Y := ⟨_, rfl⟩
  obtain ⟨V, hV⟩ : ∃ V, (U8 X).toArray = V := ⟨_, rfl⟩
  rw [hC] at hW0 ⊢
  rw [hZ] at hW1 HAL
  rw [hY] at HA2
  rw [hV] at HH
  obtain ⟨nl, hnl⟩ : ∃ nl, L.length = nl := ⟨_, rfl⟩
  have HRD := fun (W : World) (h : IsB W ao cap L) => r6read_any ao cap L W h hL hn
  rw [hnl] at HH HRD ⊢
  obtain ⟨N, hN⟩ : ∃ N, rdNumI L = N := ⟨_, rfl⟩
  rw [hN] at HRD
  have hfw : withF 6 ao cap L = .arr X := by rw [← hX]; rfl
  have how : withOk 6 L = ok := by rw [← hok]; rfl
  unfold WithP
  have ff := withF_fits 6 ao cap L
  rw [hfw] at ff
  clear hC hZ
  go_enter Try.func36, Try.ntmps36
  refine wp_seq (wp_region_lit ?_)
  refine st_to (some 3) rfl rfl (ex_box25 (C := C) rfl rfl) ?_
  simp only [Act.put, List.setIfInBounds_toArray, List.set_cons_zero, List.set_cons_succ]
  rw [hW0]
  refine st_to (some 6) rfl rfl (HAL.out _ _ _ rfl) ?_
  simp only [Act.put, List.setIfInBounds_toArray, List.set_cons_zero, List.set_cons_succ]
  rw [hW1, s0]
  refine st_to (some 7) rfl rfl (ex_asg (v := .bool false) rfl rfl) ?_
  simp only [Act.put, List.setIfInBounds_toArray, List.set_cons_zero, List.set_cons_succ]
  refine st_end ?_
  refine wp_seq (wp_region_lit ?_)
  refine st_to (some 12) rfl rfl (ex_mv (v := .slice ao nl cap) rfl rfl) ?_
  simp only [Act.put, List.setIfInBounds_toArray, List.set_cons_zero, List.set_cons_succ]
  refine st_call (some 13) rfl rfl HH (ex_call (f := 68) (vs := [.slice ao nl cap]) rfl (cfHash _) rfl) ?_
  rintro e W2 ⟨rfl, HB2⟩
  refine ⟨_, rfl, ?_⟩
  simp only [Act.put, List.setIfInBounds_toArray, List.set_cons_zero, List.set_cons_succ]
  have R8 := RowAt.new W2 (show Z32.length = 32 from rfl)
  obtain ⟨T8, R8'⟩ := set_row R8 (l' := X) lX
  have B2 := B1.trans (HB2.out.mono B1.size)
  have B3 := (B2.alloc B2.size (.cells (U8 Z32).toArray 22)).grown (grown_setCells W2.heap.size (U8 X).toArray.toList 0 _) (by simp; have := B2.size; omega) (fun k hk => by cases hk; exact B2.size)
  have z2 := HB2.out.size
  have hlt6 := M6.lt
  have Y3 : Below W2.heap.size W2 ((W2.alloc (.cells (U8 Z32).toArray 22)).setCells W2.heap.size 0 (U8 X).toArray.toList) := ((Below.refl _ _).alloc (Nat.le_refl _) _).grown (grown_setCells _ _ _ _) (by simp) (fun k hk => by cases hk; exact Nat.le_refl _)
  obtain ⟨W3, hW3⟩ : ∃ W3, (W2.alloc (.cells (U8 Z32).toArray 22)).setCells W2.heap.size 0 (U8 X).toArray.toList = W3 := ⟨_, rfl⟩
  rw [hW3] at R8' B3 Y3
  have P : Pre w W3 K F W2.heap.size X ao cap L := ⟨(M1.below HB2.out).below Y3, (M6.below HB2.out).below Y3, R8', B3, by omega⟩
  have s22 := size22 lX
  have o22 := all_oneCell_toArray (one_u8 X)
  have I3 := (I1.below HB2.out).below Y3
  rw [hY, hV] at T8 hW3
  rw [hV] at s22 o22
  refine st_to (some 11) rfl rfl (ex_mv (v := .tuple #[.agg V, .bool ok]) rfl rfl) ?_
  simp only [Act.put, List.setIfInBounds_toArray, List.set_cons_zero, List.set_cons_succ]
  refine st_to (some 14) rfl rfl (ex_ext (vs := #[.agg V, .bool ok]) (v := .agg V) rfl rfl rfl) ?_
  simp only [Act.put, List.setIfInBounds_toArray, List.set_cons_zero, List.set_cons_succ]
  refine st_to (some 15) rfl rfl (ex_ext (vs := #[.agg V, .bool ok]) (v := .bool ok) rfl rfl rfl) ?_
  simp only [Act.put, List.setIfInBounds_toArray, List.set_cons_zero, List.set_cons_succ]
  refine st_to (some 8) rfl rfl (HA2.out _ _ _ rfl) ?_
  simp only [Act.put, List.setIfInBounds_toArray, List.set_cons_zero, List.set_cons_succ]
  refine st_store (ty := 22) (x := .tmp 8) (y := .tmp 14) (b := W2.heap.size) (p := 0) (cells := V) rfl rfl rfl rfl rfl T8 s22 o22 ?_
  rw [hW3]
  refine st_to (some 9) rfl rfl (ex_asg (v := .bool ok) rfl rfl) ?_
  simp only [Act.put, List.setIfInBounds_toArray, List.set_cons_zero, List.set_cons_succ]
  refine st_end ?_
  refine wp_seq (wp_region_lit ?_)
  refine st_to (some 16) rfl rfl (ex_mv (v := .slice ao nl cap) rfl rfl) ?_
  simp only [Act.put, List.setIfInBounds_toArray, List.set_cons_zero, List.set_cons_succ]
  refine st_call (some 17) rfl rfl (HRD W3 I3) (ex_call (f := 69) (vs := [.slice ao nl cap]) rfl (cfRead _) rfl) ?_
  rintro e W3' ⟨rfl, hw3⟩
  subst W3'
  refine ⟨_, rfl, ?_⟩
  simp only [Act.put, List.setIfInBounds_toArray, List.set_cons_zero, List.set_cons_succ]
  refine st_to (some 10) rfl rfl (ex_asg (v := .int .i64 N) rfl rfl) ?_
  simp only [Act.put, List.setIfInBounds_toArray, List.set_cons_zero, List.set_cons_succ]
  refine st_end ?_
  refine wp_seq ?_
  refine wp_seq (wp_region_lit ?_)
  refine st_to (some 18) rfl rfl (ex_mv (v := .int .u64 13) rfl rfl) ?_
  simp only [Act.put, List.setIfInBounds_toArray, List.set_cons_zero, List.set_cons_succ]
  refine st_end ?_
  refine wp_block ?_
  refine wp_seq (wp_region_lit ?_)
  refine st_to (some 23) rfl rfl (ex_bin (c := .bool false) rfl rfl rfl (eg36 _ _ _ _ _ _) (eq36 13 1 _)) ?_
  simp only [Act.put, List.setIfInBounds_toArray, List.set_cons_zero, List.set_cons_succ]
  refine st_to (some 22) rfl rfl (ex_asg (v := .bool false) rfl rfl) ?_
  simp only [Act.put, List.setIfInBounds_toArray, List.set_cons_zero, List.set_cons_succ]
  refine st_end ?_
  refine wp_cond_false rfl ?_
  refine wp_seq (wp_region_lit ?_)
  refine st_to (some 27) rfl rfl (ex_bin (c := .bool false) rfl rfl rfl (eg36 _ _ _ _ _ _) (eq36 13 3 _)) ?_
  simp only [Act.put, List.setIfInBounds_toArray, List.set_cons_zero, List.set_cons_succ]
  refine st_to (some 26) rfl rfl (ex_asg (v := .bool false) rfl rfl) ?_
  simp only [Act.put, List.setIfInBounds_toArray, List.set_cons_zero, List.set_cons_succ]
  refine st_end ?_
  refine wp_cond_false rfl ?_
  refine wp_seq (wp_region_lit ?_)
  refine st_to (some 31) rfl rfl (ex_bin (c := .bool false) rfl rfl rfl (eg36 _ _ _ _ _ _) (eq36 13 5 _)) ?_
  simp only [Act.put, List.setIfInBounds_toArray, List.set_cons_zero, List.set_cons_succ]
  refine st_to (some 30) rfl rfl (ex_asg (v := .bool false) rfl rfl) ?_
  simp only [Act.put, List.setIfInBounds_toArray, List.set_cons_zero, List.set_cons_succ]
  refine st_end ?_
  refine wp_cond_false rfl ?_
  refine wp_seq (wp_region_lit ?_)
  refine st_to (some 35) rfl rfl (ex_bin (c := .bool false) rfl rfl rfl (eg36 _ _ _ _ _ _) (eq36 13 7 _)) ?_
  simp only [Act.put, List.setIfInBounds_toArray, List.set_cons_zero, List.set_cons_succ]
  refine st_to (some 34) rfl rfl (ex_asg (v := .bool false) rfl rfl) ?_
  simp only [Act.put, List.setIfInBounds_toArray, List.set_cons_zero, List.set_cons_succ]
  refine st_end ?_
  refine wp_cond_false rfl ?_
  refine wp_seq (wp_region_lit ?_)
  refine st_to (some 39) rfl rfl (ex_bin (c := .bool false) rfl rfl rfl (eg36 _ _ _ _ _ _) (eq36 13 9 _)) ?_
  simp only [Act.put, List.setIfInBounds_toArray, List.set_cons_zero, List.set_cons_succ]
  refine st_to (some 38) rfl rfl (ex_asg (v := .bool false) rfl rfl) ?_
  simp only [Act.put, List.setIfInBounds_toArray, List.set_cons_zero, List.set_cons_succ]
  refine st_end ?_
  refine wp_cond_false rfl ?_
  refine wp_seq (wp_region_lit ?_)
  refine st_to (some 45) rfl rfl (ex_bin (c := .bool false) rfl rfl rfl (eg36 _ _ _ _ _ _) (eq36 13 11 _)) ?_
  simp only [Act.put, List.setIfInBounds_toArray, List.set_cons_zero, List.set_cons_succ]
  refine st_to (some 44) rfl rfl (ex_asg (v := .bool false) rfl rfl) ?_
  simp only [Act.put, List.setIfInBounds_toArray, List.set_cons_zero, List.set_cons_succ]
  refine st_end ?_
  refine wp_cond_false rfl ?_
  refine wp_seq (wp_region_lit ?_)
  refine st_to (some 50) rfl rfl (ex_bin (c := .bool true) rfl rfl rfl (eg36 _ _ _ _ _ _) (eq36 13 13 _)) ?_
  simp only [Act.put, List.setIfInBounds_toArray, List.set_cons_zero, List.set_cons_succ]
  refine st_to (some 49) rfl rfl (ex_asg (v := .bool true) rfl rfl) ?_
  simp only [Act.put, List.setIfInBounds_toArray, List.set_cons_zero, List.set_cons_succ]
  refine st_end ?_
  refine wp_cond_true rfl ?_
  obtain ⟨E1, E2, E3, E4⟩ := P.end_ (i := 6) (by omega) (f := .arr X) ff
  have hfit := E1.fits
  have lE := run_loadAt_mid (P := Try.prog) _ w.heap.size 0 25 _ _ E1.range Try.underlying25 rfl (infoLen K hfit)
  have sE := infoSize K hfit
  have oE := oneMsg K (upd F 6 (.arr X))
  have HP := hide (fun (tm : Array Value) (W2 : World) (v : Value) (h1 : tm.getD 6 undef = .pointer (some ⟨w.heap.size + 1, 0, none⟩)) (h2 : tm.getD 7 undef = v) (h3 : W2.rangeAt (w.heap.size + 1) 0 (mc K (upd F 6 (.arr X)))) => ret_msg2 Try.results36 tm W2 (w.heap.size + 1) K hfit v h1 h2 h3)
  obtain ⟨Q, hQ⟩ : ∃ Q, mc K (upd F 6 (.arr X)) = Q := ⟨_, rfl⟩
  rw [hQ] at E2 E3 E4 lE sE oE HP
  have fr : W3.frozen? ⟨w.heap.size, 38, none⟩ = false := P.m.free (i := 6) (by omega)
  obtain ⟨W4, hW4⟩ : ∃ W4, W3.setCells w.heap.size (off 6) (.arr X : Fld).cells = W4 := ⟨_, rfl⟩
  rw [hW4] at E1 E2 E3 E4 lE
  have lX8 := P.x.load
  rw [hV] at lX8
  have T5 : W3.there w.heap.size 38 V.size := by rw [← hV, show (U8 X).toArray.size = 32 by simp [U8_length, lX]]; exact P.m.may (i := 6) (by omega)
  have hset : W3.setCells w.heap.size 38 V.toList = W4 := by rw [← hW4, ← hV]; rfl
  refine wp_seq (wp_region_lit ?_)
  refine st_to (some 51) rfl rfl (ex_load rfl rfl lX8) ?_
  simp only [Act.put, List.setIfInBounds_toArray, List.set_cons_zero, List.set_cons_succ]
  refine st_to (some 52) rfl rfl (ex_fld rfl rfl (fa7 _ _)) ?_
  simp only [Act.put, List.setIfInBounds_toArray, List.set_cons_zero, List.set_cons_succ]
  refine st_store (ty := 22) (x := .tmp 52) (y := .tmp 51) (b := w.heap.size) (p := 38) (cells := V) rfl rfl rfl rfl rfl T5 s22 o22 ?_
  rw [hset]
  refine st_end ?_
  refine wp_seq (wp_region_lit ?_)
  refine st_to (some 53) rfl rfl (ex_load rfl rfl lE) ?_
  simp only [Act.put, List.setIfInBounds_toArray, List.set_cons_zero, List.set_cons_succ]
  refine st_to (some 54) rfl rfl (ex_mv (v := .bool ok) rfl rfl) ?_
  simp only [Act.put, List.setIfInBounds_toArray, List.set_cons_zero, List.set_cons_succ]
  refine st_store (ty := 25) (x := .tmp 6) (y := .tmp 53) (b := w.heap.size + 1) (p := 0) (cells := Q.toArray) rfl rfl rfl rfl rfl E2 sE oE ?_
  refine st_to (some 7) rfl rfl (ex_asg (v := .bool ok) rfl rfl) ?_
  simp only [Act.put, List.setIfInBounds_toArray, List.set_cons_zero, List.set_cons_succ]
  refine st_end ?_
  refine wp_ret ?_
  refine blk_ret ?_
  refine bodyPost_ret (HP.out _ _ (.bool ok) rfl rfl E3) rfl ⟨by rw [hfw, hQ, how], E4⟩
set_option maxHeartbeats 4000000 in
theorem with7 (K : Int) (F : Nat → Fld) (hF : Fits F) (ao : Option Addr) (cap : Nat) (L : List Int) (w : World) (hI : IsB w ao cap L) (hL : Bytes L) (hn : L.length ≤ 9223372036854775807) :
    Calls Try.prog 36 #[.agg (mc K F).toArray, .int .u64 15, .slice ao L.length cap] w (WithP 7 K F ao cap L w) := by
  have HAL := hide (fun (a : Act) (W : World) (o : Oper) (ho : o.op = .alloc 25) => ex_alloc25 (a := a) (W := W) ho)
  have HA2 := hide (fun (a : Act) (W : World) (o : Oper) (ho : o.op = .alloc 22) => ex_alloc22 (a := a) (W := W) ho)
  obtain ⟨W0, hW0⟩ : ∃ W0, w.alloc (.cells (mc K F).toArray 25) = W0 := ⟨_, rfl⟩
  obtain ⟨W1, hW1⟩ : ∃ W1, W0.alloc (.cells (mc 0 ZF).toArray 25) = W1 := ⟨_, rfl⟩
  have s0 : W0.heap.size = w.heap.size + 1 := by rw [← hW0]; simp
  have M1 : MsgAt W1 w.heap.size K F := by rw [← hW1, ← hW0]; exact (MsgAt.new w K hF).below (below_alloc _ _)
  have M6 : MsgAt W1 (w.heap.size + 1) 0 ZF := by rw [← s0, ← hW1]; exact MsgAt.new W0 0 ZFits
  have B1 : Below w.heap.size w W1 := by rw [← hW1, ← hW0]; exact ((Below.refl _ _).alloc (Nat.le_refl _) _).alloc (by simp) _
  have I1 := hI.below B1
  have HH := hash_any ao cap L W1 I1 hn
  obtain ⟨X, hX⟩ : ∃ X, hashL L = X := ⟨_, rfl⟩
  have lX : X.length = 32 := by rw [← hX]; exact hashL_len L
  rw [hX] at HH
  obtain ⟨ok, hok⟩ : ∃ ok, decide (L.length = 32) = ok := ⟨_, rfl⟩
  rw [hok] at HH
  obtain ⟨C, hC⟩ : ∃ C, (mc K F).toArray = C := ⟨_, rfl⟩
  obtain ⟨Z, hZ⟩ : ∃ Z, (mc 0 ZF).toArray = Z := ⟨_, rfl⟩
  obtain ⟨Y, hY⟩ : ∃ Y, (U8 Z32).toArray = Y := ⟨_, rfl⟩
  obtain ⟨V, hV⟩ : ∃ V, (U8 X).toArray = V := ⟨_, rfl⟩
  rw [hC] at hW0 ⊢
  rw [hZ] at hW1 HAL
  rw [hY] at HA2
  rw [hV] at HH
  obtain ⟨nl, hnl⟩ : ∃ nl, L.length = nl := ⟨_, rfl⟩
  have HRD := fun (W : World) (h : IsB W ao cap L) => r6read_any ao cap L W h hL hn
  rw [hnl] at HH HRD ⊢
  obtain ⟨N, hN⟩ : ∃ N, rdNumI L = N := ⟨_, rfl⟩
  rw [hN] at HRD
  have hfw : withF 7 ao cap L = .arr X := by rw [← hX]; rfl
  have how : withOk 7 L = ok := by rw [← hok]; rfl
  unfold WithP
  have ff := withF_fits 7 ao cap L
  rw [hfw] at ff
  clear hC hZ
  go_enter Try.func36, Try.ntmps36
  refine wp_seq (wp_region_lit ?_)
  refine st_to (some 3) rfl rfl (ex_box25 (C := C) rfl rfl) ?_
  simp only [Act.put, List.setIfInBounds_toArray, List.set_cons_zero, List.set_cons_succ]
  rw [hW0]
  refine st_to (some 6) rfl rfl (HAL.out _ _ _ rfl) ?_
  simp only [Act.put, List.setIfInBounds_toArray, List.set_cons_zero, List.set_cons_succ]
  rw [hW1, s0]
  refine st_to (some 7) rfl rfl (ex_asg (v := .bool false) rfl rfl) ?_
  simp only [Act.put, List.setIfInBounds_toArray, List.set_cons_zero, List.set_cons_succ]
  refine st_end ?_
  refine wp_seq (wp_region_lit ?_)
  refine st_to (some 12) rfl rfl (ex_mv (v := .slice ao nl cap) rfl rfl) ?_
  simp only [Act.put, List.setIfInBounds_toArray, List.set_cons_zero, List.set_cons_succ]
  refine st_call (some 13) rfl rfl HH (ex_call (f := 68) (vs := [.slice ao nl cap]) rfl (cfHash _) rfl) ?_
  rintro e W2 ⟨rfl, HB2⟩
  refine ⟨_, rfl, ?_⟩
  simp only [Act.put, List.setIfInBounds_toArray, List.set_cons_zero, List.set_cons_succ]
  have R8 := RowAt.new W2 (show Z32.length = 32 from rfl)
  obtain ⟨T8, R8'⟩ := set_row R8 (l' := X) lX
  have B2 := B1.trans (HB2.out.mono B1.size)
  have B3 := (B2.alloc B2.size (.cells (U8 Z32).toArray 22)).grown (grown_setCells W2.heap.size (U8 X).toArray.toList 0 _) (by simp; have := B2.size; omega) (fun k hk => by cases hk; exact B2.size)
  have z2 := HB2.out.size
  have hlt6 := M6.lt
  have Y3 : Below W2.heap.size W2 ((W2.alloc (.cells (U8 Z32).toArray 22)).setCells W2.heap.size 0 (U8 X).toArray.toList) := ((Below.refl _ _).alloc (Nat.le_refl _) _).grown (grown_setCells _ _ _ _) (by simp) (fun k hk => by cases hk; exact Nat.le_refl _)
  obtain ⟨W3, hW3⟩ : ∃ W3, (W2.alloc (.cells (U8 Z32).toArray 22)).setCells W2.heap.size 0 (U8 X).toArray.toList = W3 := ⟨_, rfl⟩
  rw [hW3] at R8' B3 Y3
  have P : Pre w W3 K F W2.heap.size X ao cap L := ⟨(M1.below HB2.out).below Y3, (M6.below HB2.out).below Y3, R8', B3, by omega⟩
  have s22 := size22 lX
  have o22 := all_oneCell_toArray (one_u8 X)
  have I3 := (I1.below HB2.out).below Y3
  rw [hY, hV] at T8 hW3
  rw [hV] at s22 o22
  refine st_to (some 11) rfl rfl (ex_mv (v := .tuple #[.agg V, .bool ok]) rfl rfl) ?_
  simp only [Act.put, List.setIfInBounds_toArray, List.set_cons_zero, List.set_cons_succ]
  refine st_to (some 14) rfl rfl (ex_ext (vs := #[.agg V, .bool ok]) (v := .agg V) rfl rfl rfl) ?_
  simp only [Act.put, List.setIfInBounds_toArray, List.set_cons_zero, List.set_cons_succ]
  refine st_to (some 15) rfl rfl (ex_ext (vs := #[.agg V, .bool ok]) (v := .bool ok) rfl rfl rfl) ?_
  simp only [Act.put, List.setIfInBounds_toArray, List.set_cons_zero, List.set_cons_succ]
  refine st_to (some 8) rfl rfl (HA2.out _ _ _ rfl) ?_
  simp only [Act.put, List.setIfInBounds_toArray, List.set_cons_zero, List.set_cons_succ]
  refine st_store (ty := 22) (x := .tmp 8) (y := .tmp 14) (b := W2.heap.size) (p := 0) (cells := V) rfl rfl rfl rfl rfl T8 s22 o22 ?_
  rw [hW3]
  refine st_to (some 9) rfl rfl (ex_asg (v := .bool ok) rfl rfl) ?_
  simp only [Act.put, List.setIfInBounds_toArray, List.set_cons_zero, List.set_cons_succ]
  refine st_end ?_
  refine wp_seq (wp_region_lit ?_)
  refine st_to (some 16) rfl rfl (ex_mv (v := .slice ao nl cap) rfl rfl) ?_
  simp only [Act.put, List.setIfInBounds_toArray, List.set_cons_zero, List.set_cons_succ]
  refine st_call (some 17) rfl rfl (HRD W3 I3) (ex_call (f := 69) (vs := [.slice ao nl cap]) rfl (cfRead _) rfl) ?_
  rintro e W3' ⟨rfl, hw3⟩
  subst W3'
  refine ⟨_, rfl, ?_⟩
  simp only [Act.put, List.setIfInBounds_toArray, List.set_cons_zero, List.set_cons_succ]
  refine st_to (some 10) rfl rfl (ex_asg (v := .int .i64 N) rfl rfl) ?_
  simp only [Act.put, List.setIfInBounds_toArray, List.set_cons_zero, List.set_cons_succ]
  refine st_end ?_
  refine wp_seq ?_
  refine wp_seq (wp_region_lit ?_)
  refine st_to (some 18) rfl rfl (ex_mv (v := .int .u64 15) rfl rfl) ?_
  simp only [Act.put, List.setIfInBounds_toArray, List.set_cons_zero, List.set_cons_succ]
  refine st_end ?_
  refine wp_block ?_
  refine wp_seq (wp_region_lit ?_)
  refine st_to (some 23) rfl rfl (ex_bin (c := .bool false) rfl rfl rfl (eg36 _ _ _ _ _ _) (eq36 15 1 _)) ?_
  simp only [Act.put, List.setIfInBounds_toArray, List.set_cons_zero, List.set_cons_succ]
  refine st_to (some 22) rfl rfl (ex_asg (v := .bool false) rfl rfl) ?_
  simp only [Act.put, List.setIfInBounds_toArray, List.set_cons_zero, List.set_cons_succ]
  refine st_end ?_
  refine wp_cond_false rfl ?_
  refine wp_seq (wp_region_lit ?_)
  refine st_to (some 27) rfl rfl (ex_bin (c := .bool false) rfl rfl rfl (eg36 _ _ _ _ _ _) (eq36 15 3 _)) ?_
  simp only [Act.put, List.setIfInBounds_toArray, List.set_cons_zero, List.set_cons_succ]
  refine st_to (some 26) rfl rfl (ex_asg (v := .bool false) rfl rfl) ?_
  simp only [Act.put, List.setIfInBounds_toArray, List.set_cons_zero, List.set_cons_succ]
  refine st_end ?_
  refine wp_cond_false rfl ?_
  refine wp_seq (wp_region_lit ?_)
  refine st_to (some 31) rfl rfl (ex_bin (c := .bool false) rfl rfl rfl (eg36 _ _ _ _ _ _) (eq36 15 5 _)) ?_
  simp only [Act.put, List.setIfInBounds_toArray, List.set_cons_zero, List.set_cons_succ]
  refine st_to (some 30) rfl rfl (ex_asg (v := .bool false) rfl rfl) ?_
  simp only [Act.put, List.setIfInBounds_toArray, List.set_cons_zero, List.set_cons_succ]
  refine st_end ?_
  refine wp_cond_false rfl ?_
  refine wp_seq (wp_region_lit ?_)
  refine st_to (some 35) rfl rfl (ex_bin (c := .bool false) rfl rfl rfl (eg36 _ _ _ _ _ _) (eq36 15 7 _)) ?_
  simp only [Act.put, List.setIfInBounds_toArray, List.set_cons_zero, List.set_cons_succ]
  refine st_to (some 34) rfl rfl (ex_asg (v := .bool false) rfl rfl) ?_
  simp only [Act.put, List.setIfInBounds_toArray, List.set_cons_zero, List.set_cons_succ]
  refine st_end ?_
  refine wp_cond_false rfl ?_
  refine wp_seq (wp_region_lit ?_)
  refine st_to (some 39) rfl rfl (ex_bin (c := .bool false) rfl rfl rfl (eg36 _ _ _ _ _ _) (eq36 15 9 _)) ?_
  simp only [Act.put, List.setIfInBounds_toArray, List.set_cons_zero, List.set_cons_succ]
  refine st_to (some 38) rfl rfl (ex_asg (v := .bool false) rfl rfl) ?_
  simp only [Act.put, List.setIfInBounds_toArray, List.set_cons_zero, List.set_cons_succ]
  refine st_end ?_
  refine wp_cond_false rfl ?_
  refine wp_seq (wp_region_lit ?_)
  refine st_to (some 45) rfl rfl (ex_bin (c := .bool false) rfl rfl rfl (eg36 _ _ _ _ _ _) (eq36 15 11 _)) ?_
  simp only [Act.put, List.setIfInBounds_toArray, List.set_cons_zero, List.set_cons_succ]
  refine st_to (some 44) rfl rfl (ex_asg (v := .bool false) rfl rfl) ?_
  simp only [Act.put, List.setIfInBounds_toArray, List.set_cons_zero, List.set_cons_succ]
  refine st_end ?_
  refine wp_cond_false rfl ?_
  refine wp_seq (wp_region_lit ?_)
  refine st_to (some 50) rfl rfl (ex_bin (c := .bool false) rfl rfl rfl (eg36 _ _ _ _ _ _) (eq36 15 13 _)) ?_
  simp only [Act.put, List.setIfInBounds_toArray, List.set_cons_zero, List.set_cons_succ]
  refine st_to (some 49) rfl rfl (ex_asg (v := .bool false) rfl rfl) ?_
  simp only [Act.put, List.setIfInBounds_toArray, List.set_cons_zero, List.set_cons_succ]
  refine st_end ?_
  refine wp_cond_false rfl ?_
  refine wp_seq (wp_region_lit ?_)
  refine st_to (some 56) rfl rfl (ex_bin (c := .bool true) rfl rfl rfl (eg36 _ _ _ _ _ _) (eq36 15 15 _)) ?_
  simp only [Act.put, List.setIfInBounds_toArray, List.set_cons_zero, List.set_cons_succ]
  refine st_to (some 55) rfl rfl (ex_asg (v := .bool true) rfl rfl) ?_
  simp only [Act.put, List.setIfInBounds_toArray, List.set_cons_zero, List.set_cons_succ]
  refine st_end ?_
  refine wp_cond_true rfl ?_
  obtain ⟨E1, E2, E3, E4⟩ := P.end_ (i := 7) (by omega) (f := .arr X) ff
  have hfit := E1.fits
  have lE := run_loadAt_mid (P := Try.prog) _ w.heap.size 0 25 _ _ E1.range Try.underlying25 rfl (infoLen K hfit)
  have sE := infoSize K hfit
  have oE := oneMsg K (upd F 7 (.arr X))
  have HP := hide (fun (tm : Array Value) (W2 : World) (v : Value) (h1 : tm.getD 6 undef = .pointer (some ⟨w.heap.size + 1, 0, none⟩)) (h2 : tm.getD 7 undef = v) (h3 : W2.rangeAt (w.heap.size + 1) 0 (mc K (upd F 7 (.arr X)))) => ret_msg2 Try.results36 tm W2 (w.heap.size + 1) K hfit v h1 h2 h3)
  obtain ⟨Q, hQ⟩ : ∃ Q, mc K (upd F 7 (.arr X)) = Q := ⟨_, rfl⟩
  rw [hQ] at E2 E3 E4 lE sE oE HP
  have fr : W3.frozen? ⟨w.heap.size, 70, none⟩ = false := P.m.free (i := 7) (by omega)
  obtain ⟨W4, hW4⟩ : ∃ W4, W3.setCells w.heap.size (off 7) (.arr X : Fld).cells = W4 := ⟨_, rfl⟩
  rw [hW4] at E1 E2 E3 E4 lE
  have lX8 := P.x.load
  rw [hV] at lX8
  have T5 : W3.there w.heap.size 70 V.size := by rw [← hV, show (U8 X).toArray.size = 32 by simp [U8_length, lX]]; exact P.m.may (i := 7) (by omega)
  have hset : W3.setCells w.heap.size 70 V.toList = W4 := by rw [← hW4, ← hV]; rfl
  refine wp_seq (wp_region_lit ?_)
  refine st_to (some 57) rfl rfl (ex_load rfl rfl lX8) ?_
  simp only [Act.put, List.setIfInBounds_toArray, List.set_cons_zero, List.set_cons_succ]
  refine st_to (some 58) rfl rfl (ex_fld rfl rfl (fa8 _ _)) ?_
  simp only [Act.put, List.setIfInBounds_toArray, List.set_cons_zero, List.set_cons_succ]
  refine st_store (ty := 22) (x := .tmp 58) (y := .tmp 57) (b := w.heap.size) (p := 70) (cells := V) rfl rfl rfl rfl rfl T5 s22 o22 ?_
  rw [hset]
  refine st_end ?_
  refine wp_seq (wp_region_lit ?_)
  refine st_to (some 59) rfl rfl (ex_load rfl rfl lE) ?_
  simp only [Act.put, List.setIfInBounds_toArray, List.set_cons_zero, List.set_cons_succ]
  refine st_to (some 60) rfl rfl (ex_mv (v := .bool ok) rfl rfl) ?_
  simp only [Act.put, List.setIfInBounds_toArray, List.set_cons_zero, List.set_cons_succ]
  refine st_store (ty := 25) (x := .tmp 6) (y := .tmp 59) (b := w.heap.size + 1) (p := 0) (cells := Q.toArray) rfl rfl rfl rfl rfl E2 sE oE ?_
  refine st_to (some 7) rfl rfl (ex_asg (v := .bool ok) rfl rfl) ?_
  simp only [Act.put, List.setIfInBounds_toArray, List.set_cons_zero, List.set_cons_succ]
  refine st_end ?_
  refine wp_ret ?_
  refine blk_ret ?_
  refine bodyPost_ret (HP.out _ _ (.bool ok) rfl rfl E3) rfl ⟨by rw [hfw, hQ, how], E4⟩
set_option maxHeartbeats 4000000 in
theorem with8 (K : Int) (F : Nat → Fld) (hF : Fits F) (ao : Option Addr) (cap : Nat) (L : List Int) (w : World) (hI : IsB w ao cap L) (hL : Bytes L) (hn : L.length ≤ 9223372036854775807) :
    Calls Try.prog 36 #[.agg (mc K F).toArray, .int .u64 17, .slice ao L.length cap] w (WithP 8 K F ao cap L w) := by
  have HAL := hide (fun (a : Act) (W : World) (o : Oper) (ho : o.op = .alloc 25) => ex_alloc25 (a := a) (W := W) ho)
  have HA2 := hide (fun (a : Act) (W : World) (o : Oper) (ho : o.op = .alloc 22) => ex_alloc22 (a := a) (W := W) ho)
  obtain ⟨W0, hW0⟩ : ∃ W0, w.alloc (.cells (mc K F).toArray 25) = W0 := ⟨_, rfl⟩
  obtain ⟨W1, hW1⟩ : ∃ W1, W0.alloc (.cells (mc 0 ZF).toArray 25) = W1 := ⟨_, rfl⟩
  have s0 : W0.heap.size = w.heap.size + 1 := by rw [← hW0]; simp
  have M1 : MsgAt W1 w.heap.size K F := by rw [← hW1, ← hW0]; exact (MsgAt.new w K hF).below (below_alloc _ _)
  have M6 : MsgAt W1 (w.heap.size + 1) 0 ZF := by rw [← s0, ← hW1]; exact MsgAt.new W0 0 ZFits
  have B1 : Below w.heap.size w W1 := by rw [← hW1, ← hW0]; exact ((Below.refl _ _).alloc (Nat.le_refl _) _).alloc (by simp) _
  have I1 := hI.below B1
  have HH := hash_any ao cap L W1 I1 hn
  obtain ⟨X, hX⟩ : ∃ X, hashL L = X := ⟨_, rfl⟩
  have lX : X.length = 32 := by rw [← hX]; exact hashL_len L
  rw [hX] at HH
  obtain ⟨ok, hok⟩ : ∃ ok, decide (L.length = 32) = ok := ⟨_, rfl⟩
  rw [hok] at HH
  obtain ⟨C, hC⟩ : ∃ C, (mc K F).toArray = C := ⟨_, rfl⟩
  obtain ⟨Z, hZ⟩ : ∃ Z, (mc 0 ZF).toArray = Z := ⟨_, rfl⟩
  obtain ⟨Y, hY⟩ : ∃ Y, (U8 Z32).toArray = Y := ⟨_, rfl⟩
  obtain ⟨V, hV⟩ : ∃ V, (U8 X).toArray = V := ⟨_, rfl⟩
  rw [hC] at hW0 ⊢
  rw [hZ] at hW1 HAL
  rw [hY] at HA2
  rw [hV] at HH
  obtain ⟨nl, hnl⟩ : ∃ nl, L.length = nl := ⟨_, rfl⟩
  have HRD := fun (W : World) (h : IsB W ao cap L) => r6read_any ao cap L W h hL hn
  rw [hnl] at HH HRD ⊢
  obtain ⟨N, hN⟩ : ∃ N, rdNumI L = N := ⟨_, rfl⟩
  rw [hN] at HRD
  have hfw : withF 8 ao cap L = .arr X := by rw [← hX]; rfl
  have how : withOk 8 L = ok := by rw [← hok]; rfl
  unfold WithP
  have ff := withF_fits 8 ao cap L
  rw [hfw] at ff
  clear hC hZ
  go_enter Try.func36, Try.ntmps36
  refine wp_seq (wp_region_lit ?_)
  refine st_to (some 3) rfl rfl (ex_box25 (C := C) rfl rfl) ?_
  simp only [Act.put, List.setIfInBounds_toArray, List.set_cons_zero, List.set_cons_succ]
  rw [hW0]
  refine st_to (some 6) rfl rfl (HAL.out _ _ _ rfl) ?_
  simp only [Act.put, List.setIfInBounds_toArray, List.set_cons_zero, List.set_cons_succ]
  rw [hW1, s0]
  refine st_to (some 7) rfl rfl (ex_asg (v := .bool false) rfl rfl) ?_
  simp only [Act.put, List.setIfInBounds_toArray, List.set_cons_zero, List.set_cons_succ]
  refine st_end ?_
  refine wp_seq (wp_region_lit ?_)
  refine st_to (some 12) rfl rfl (ex_mv (v := .slice ao nl cap) rfl rfl) ?_
  simp only [Act.put, List.setIfInBounds_toArray, List.set_cons_zero, List.set_cons_succ]
  refine st_call (some 13) rfl rfl HH (ex_call (f := 68) (vs := [.slice ao nl cap]) rfl (cfHash _) rfl) ?_
  rintro e W2 ⟨rfl, HB2⟩
  refine ⟨_, rfl, ?_⟩
  simp only [Act.put, List.setIfInBounds_toArray, List.set_cons_zero, List.set_cons_succ]
  have R8 := RowAt.new W2 (show Z32.length = 32 from rfl)
  obtain ⟨T8, R8'⟩ := set_row R8 (l' := X) lX
  have B2 := B1.trans (HB2.out.mono B1.size)
  have B3 := (B2.alloc B2.size (.cells (U8 Z32).toArray 22)).grown (grown_setCells W2.heap.size (U8 X).toArray.toList 0 _) (by simp; have := B2.size; omega) (fun k hk => by cases hk; exact B2.size)
  have z2 := HB2.out.size
  have hlt6 := M6.lt
  have Y3 : Below W2.heap.size W2 ((W2.alloc (.cells (U8 Z32).toArray 22)).setCells W2.heap.size 0 (U8 X).toArray.toList) := ((Below.refl _ _).alloc (Nat.le_refl _) _).grown (grown_setCells _ _ _ _) (by simp) (fun k hk => by cases hk; exact Nat.le_refl _)
  obtain ⟨W3, hW3⟩ : ∃ W3, (W2.alloc (.cells (U8 Z32).toArray 22)).setCells W2.heap.size 0 (U8 X).toArray.toList = W3 := ⟨_, rfl⟩
  rw [hW3] at R8' B3 Y3
  have P : Pre w W3 K F W2.heap.size X ao cap L := ⟨(M1.below HB2.out).below Y3, (M6.below HB2.out).below Y3, R8', B3, by omega⟩
  have s22 := size22 lX
  have o22 := all_oneCell_toArray (one_u8 X)
  have I3 := (I1.below HB2.out).below Y3
  rw [hY, hV] at T8 hW3
  rw [hV] at s22 o22
  refine st_to (some 11) rfl rfl (ex_mv (v := .tuple #[.agg V, .bool ok]) rfl rfl) ?_
  simp only [Act.put, List.setIfInBounds_toArray, List.set_cons_zero, List.set_cons_succ]
  refine st_to (some 14) rfl rfl (ex_ext (vs := #[.agg V, .bool ok]) (v := .agg V) rfl rfl rfl) ?_
  simp only [Act.put, List.setIfInBounds_toArray, List.set_cons_zero, List.set_cons_succ]
  refine st_to (some 15) rfl rfl (ex_ext (vs := #[.agg V, .bool ok]) (v := .bool ok) rfl rfl rfl) ?_
  simp only [Act.put, List.setIfInBounds_toArray, List.set_cons_zero, List.set_cons_succ]
  refine st_to (some 8) rfl rfl (HA2.out _ _ _ rfl) ?_
  simp only [Act.put, List.setIfInBounds_toArray, List.set_cons_zero, List.set_cons_succ]
  refine st_store (ty := 22) (x := .tmp 8) (y := .tmp 14) (b := W2.heap.size) (p := 0) (cells := V) rfl rfl rfl rfl rfl T8 s22 o22 ?_
  rw [hW3]
  refine st_to (some 9) rfl rfl (ex_asg (v := .bool ok) rfl rfl) ?_
  simp only [Act.put, List.setIfInBounds_toArray, List.set_cons_zero, List.set_cons_succ]
  refine st_end ?_
  refine wp_seq (wp_region_lit ?_)
  refine st_to (some 16) rfl rfl (ex_mv (v := .slice ao nl cap) rfl rfl) ?_
  simp only [Act.put, List.setIfInBounds_toArray, List.set_cons_zero, List.set_cons_succ]
  refine st_call (some 17) rfl rfl (HRD W3 I3) (ex_call (f := 69) (vs := [.slice ao nl cap]) rfl (cfRead _) rfl) ?_
  rintro e W3' ⟨rfl, hw3⟩
  subst W3'
  refine ⟨_, rfl, ?_⟩
  simp only [Act.put, List.setIfInBounds_toArray, List.set_cons_zero, List.set_cons_succ]
  refine st_to (some 10) rfl rfl (ex_asg (v := .int .i64 N) rfl rfl) ?_
  simp only [Act.put, List.setIfInBounds_toArray, List.set_cons_zero, List.set_cons_succ]
  refine st_end ?_
  refine wp_seq ?_
  refine wp_seq (wp_region_lit ?_)
  refine st_to (some 18) rfl rfl (ex_mv (v := .int .u64 17) rfl rfl) ?_
  simp only [Act.put, List.setIfInBounds_toArray, List.set_cons_zero, List.set_cons_succ]
  refine st_end ?_
  refine wp_block ?_
  refine wp_seq (wp_region_lit ?_)
  refine st_to (some 23) rfl rfl (ex_bin (c := .bool false) rfl rfl rfl (eg36 _ _ _ _ _ _) (eq36 17 1 _)) ?_
  simp only [Act.put, List.setIfInBounds_toArray, List.set_cons_zero, List.set_cons_succ]
  refine st_to (some 22) rfl rfl (ex_asg (v := .bool false) rfl rfl) ?_
  simp only [Act.put, List.setIfInBounds_toArray, List.set_cons_zero, List.set_cons_succ]
  refine st_end ?_
  refine wp_cond_false rfl ?_
  refine wp_seq (wp_region_lit ?_)
  refine st_to (some 27) rfl rfl (ex_bin (c := .bool false) rfl rfl rfl (eg36 _ _ _ _ _ _) (eq36 17 3 _)) ?_
  simp only [Act.put, List.setIfInBounds_toArray, List.set_cons_zero, List.set_cons_succ]
  refine st_to (some 26) rfl rfl (ex_asg (v := .bool false) rfl rfl) ?_
  simp only [Act.put, List.setIfInBounds_toArray, List.set_cons_zero, List.set_cons_succ]
  refine st_end ?_
  refine wp_cond_false rfl ?_
  refine wp_seq (wp_region_lit ?_)
  refine st_to (some 31) rfl rfl (ex_bin (c := .bool false) rfl rfl rfl (eg36 _ _ _ _ _ _) (eq36 17 5 _)) ?_
  simp only [Act.put, List.setIfInBounds_toArray, List.set_cons_zero, List.set_cons_succ]
  refine st_to (some 30) rfl rfl (ex_asg (v := .bool false) rfl rfl) ?_
  simp only [Act.put, List.setIfInBounds_toArray, List.set_cons_zero, List.set_cons_succ]
  refine st_end ?_
  refine wp_cond_false rfl ?_
  refine wp_seq (wp_region_lit ?_)
  refine st_to (some 35) rfl rfl (ex_bin (c := .bool false) rfl rfl rfl (eg36 _ _ _ _ _ _) (eq36 17 7 _)) ?_
  simp only [Act.put, List.setIfInBounds_toArray, List.set_cons_zero, List.set_cons_succ]
  refine st_to (some 34) rfl rfl (ex_asg (v := .bool false) rfl rfl) ?_
  simp only [Act.put, List.setIfInBounds_toArray, List.set_cons_zero, List.set_cons_succ]
  refine st_end ?_
  refine wp_cond_false rfl ?_
  refine wp_seq (wp_region_lit ?_)
  refine st_to (some 39) rfl rfl (ex_bin (c := .bool false) rfl rfl rfl (eg36 _ _ _ _ _ _) (eq36 17 9 _)) ?_
  simp only [Act.put, List.setIfInBounds_toArray, List.set_cons_zero, List.set_cons_succ]
  refine st_to (some 38) rfl rfl (ex_asg (v := .bool false) rfl rfl) ?_
  simp only [Act.put, List.setIfInBounds_toArray, List.set_cons_zero, List.set_cons_succ]
  refine st_end ?_
  refine wp_cond_false rfl ?_
  refine wp_seq (wp_region_lit ?_)
  refine st_to (some 45) rfl rfl (ex_bin (c := .bool false) rfl rfl rfl (eg36 _ _ _ _ _ _) (eq36 17 11 _)) ?_
  simp only [Act.put, List.setIfInBounds_toArray, List.set_cons_zero, List.set_cons_succ]
  refine st_to (some 44) rfl rfl (ex_asg (v := .bool false) rfl rfl) ?_
  simp only [Act.put, List.setIfInBounds_toArray, List.set_cons_zero, List.set_cons_succ]
  refine st_end ?_
  refine wp_cond_false rfl ?_
  refine wp_seq (wp_region_lit ?_)
  refine st_to (some 50) rfl rfl (ex_bin (c := .bool false) rfl rfl rfl (eg36 _ _ _ _ _ _) (eq36 17 13 _)) ?_
  simp only [Act.put, List.setIfInBounds_toArray, List.set_cons_zero, List.set_cons_succ]
  refine st_to (some 49) rfl rfl (ex_asg (v := .bool false) rfl rfl) ?_
  simp only [Act.put, List.setIfInBounds_toArray, List.set_cons_zero, List.set_cons_succ]
  refine st_end ?_
  refine wp_cond_false rfl ?_
  refine wp_seq (wp_region_lit ?_)
  refine st_to (some 56) rfl rfl (ex_bin (c := .bool false) rfl rfl rfl (eg36 _ _ _ _ _ _) (eq36 17 15 _)) ?_
  simp only [Act.put, List.setIfInBounds_toArray, List.set_cons_zero, List.set_cons_succ]
  refine st_to (some 55) rfl rfl (ex_asg (v := .bool false) rfl rfl) ?_
  simp only [Act.put, List.setIfInBounds_toArray, List.set_cons_zero, List.set_cons_succ]
  refine st_end ?_
  refine wp_cond_false rfl ?_
  refine wp_seq (wp_region_lit ?_)
  refine st_to (some 62) rfl rfl (ex_bin (c := .bool true) rfl rfl rfl (eg36 _ _ _ _ _ _) (eq36 17 17 _)) ?_
  simp only [Act.put, List.setIfInBounds_toArray, List.set_cons_zero, List.set_cons_succ]
  refine st_to (some 61) rfl rfl (ex_asg (v := .bool true) rfl rfl) ?_
  simp only [Act.put, List.setIfInBounds_toArray, List.set_cons_zero, List.set_cons_succ]
  refine st_end ?_
  refine wp_cond_true rfl ?_
  obtain ⟨E1, E2, E3, E4⟩ := P.end_ (i := 8) (by omega) (f := .arr X) ff
  have hfit := E1.fits
  have lE := run_loadAt_mid (P := Try.prog) _ w.heap.size 0 25 _ _ E1.range Try.underlying25 rfl (infoLen K hfit)
  have sE := infoSize K hfit
  have oE := oneMsg K (upd F 8 (.arr X))
  have HP := hide (fun (tm : Array Value) (W2 : World) (v : Value) (h1 : tm.getD 6 undef = .pointer (some ⟨w.heap.size + 1, 0, none⟩)) (h2 : tm.getD 7 undef = v) (h3 : W2.rangeAt (w.heap.size + 1) 0 (mc K (upd F 8 (.arr X)))) => ret_msg2 Try.results36 tm W2 (w.heap.size + 1) K hfit v h1 h2 h3)
  obtain ⟨Q, hQ⟩ : ∃ Q, mc K (upd F 8 (.arr X)) = Q := ⟨_, rfl⟩
  rw [hQ] at E2 E3 E4 lE sE oE HP
  have fr : W3.frozen? ⟨w.heap.size, 102, none⟩ = false := P.m.free (i := 8) (by omega)
  obtain ⟨W4, hW4⟩ : ∃ W4, W3.setCells w.heap.size (off 8) (.arr X : Fld).cells = W4 := ⟨_, rfl⟩
  rw [hW4] at E1 E2 E3 E4 lE
  have lX8 := P.x.load
  rw [hV] at lX8
  have T5 : W3.there w.heap.size 102 V.size := by rw [← hV, show (U8 X).toArray.size = 32 by simp [U8_length, lX]]; exact P.m.may (i := 8) (by omega)
  have hset : W3.setCells w.heap.size 102 V.toList = W4 := by rw [← hW4, ← hV]; rfl
  refine wp_seq (wp_region_lit ?_)
  refine st_to (some 63) rfl rfl (ex_load rfl rfl lX8) ?_
  simp only [Act.put, List.setIfInBounds_toArray, List.set_cons_zero, List.set_cons_succ]
  refine st_to (some 64) rfl rfl (ex_fld rfl rfl (fa9 _ _)) ?_
  simp only [Act.put, List.setIfInBounds_toArray, List.set_cons_zero, List.set_cons_succ]
  refine st_store (ty := 22) (x := .tmp 64) (y := .tmp 63) (b := w.heap.size) (p := 102) (cells := V) rfl rfl rfl rfl rfl T5 s22 o22 ?_
  rw [hset]
  refine st_end ?_
  refine wp_seq (wp_region_lit ?_)
  refine st_to (some 65) rfl rfl (ex_load rfl rfl lE) ?_
  simp only [Act.put, List.setIfInBounds_toArray, List.set_cons_zero, List.set_cons_succ]
  refine st_to (some 66) rfl rfl (ex_mv (v := .bool ok) rfl rfl) ?_
  simp only [Act.put, List.setIfInBounds_toArray, List.set_cons_zero, List.set_cons_succ]
  refine st_store (ty := 25) (x := .tmp 6) (y := .tmp 65) (b := w.heap.size + 1) (p := 0) (cells := Q.toArray) rfl rfl rfl rfl rfl E2 sE oE ?_
  refine st_to (some 7) rfl rfl (ex_asg (v := .bool ok) rfl rfl) ?_
  simp only [Act.put, List.setIfInBounds_toArray, List.set_cons_zero, List.set_cons_succ]
  refine st_end ?_
  refine wp_ret ?_
  refine blk_ret ?_
  refine bodyPost_ret (HP.out _ _ (.bool ok) rfl rfl E3) rfl ⟨by rw [hfw, hQ, how], E4⟩
set_option maxHeartbeats 4000000 in
theorem with9 (K : Int) (F : Nat → Fld) (hF : Fits F) (ao : Option Addr) (cap : Nat) (L : List Int) (w : World) (hI : IsB w ao cap L) (hL : Bytes L) (hn : L.length ≤ 9223372036854775807) :
    Calls Try.prog 36 #[.agg (mc K F).toArray, .int .u64 19, .slice ao L.length cap] w (WithP 9 K F ao cap L w) := by
  have HAL := hide (fun (a : Act) (W : World) (o : Oper) (ho : o.op = .alloc 25) => ex_alloc25 (a := a) (W := W) ho)
  have HA2 := hide (fun (a : Act) (W : World) (o : Oper) (ho : o.op = .alloc 22) => ex_alloc22 (a := a) (W := W) ho)
  obtain ⟨W0, hW0⟩ : ∃ W0, w.alloc (.cells (mc K F).toArray 25) = W0 := ⟨_, rfl⟩
  obtain ⟨W1, hW1⟩ : ∃ W1, W0.alloc (.cells (mc 0 ZF).toArray 25) = W1 := ⟨_, rfl⟩
  have s0 : W0.heap.size = w.heap.size + 1 := by rw [← hW0]; simp
  have M1 : MsgAt W1 w.heap.size K F := by rw [← hW1, ← hW0]; exact (MsgAt.new w K hF).below (below_alloc _ _)
  have M6 : MsgAt W1 (w.heap.size + 1) 0 ZF := by rw [← s0, ← hW1]; exact MsgAt.new W0 0 ZFits
  have B1 : Below w.heap.size w W1 := by rw [← hW1, ← hW0]; exact ((Below.refl _ _).alloc (Nat.le_refl _) _).alloc (by simp) _
  have I1 := hI.below B1
  have HH := hash_any ao cap L W1 I1 hn
  obtain ⟨X, hX⟩ : ∃ X, hashL L = X := ⟨_, rfl⟩
  have lX : X.length = 32 := by rw [← hX]; exact hashL_len L
  rw [hX] at HH
  obtain ⟨ok, hok⟩ : ∃ ok, decide (L.length = 32) = ok := ⟨_, rfl⟩
  rw [hok] at HH
  obtain ⟨C, hC⟩ : ∃ C, (mc K F).toArray = C := ⟨_, rfl⟩
  obtain ⟨Z, hZ⟩ : ∃ Z, (mc 0 ZF).toArray = Z := ⟨_, rfl⟩
  obtain ⟨Y, hY⟩ : ∃ Y, (U8 Z32).toArray = Y := ⟨_, rfl⟩
  obtain ⟨V, hV⟩ : ∃ V, (U8 X).toArray = V := ⟨_, rfl⟩
  rw [hC] at hW0 ⊢
  rw [hZ] at hW1 HAL
  rw [hY] at HA2
  rw [hV] at HH
  obtain ⟨nl, hnl⟩ : ∃ nl, L.length = nl := ⟨_, rfl⟩
  have HRD := fun (W : World) (h : IsB W ao cap L) => r6read_any ao cap L W h hL hn
  rw [hnl] at HH HRD ⊢
  obtain ⟨N, hN⟩ : ∃ N, rdNumI L = N := ⟨_, rfl⟩
  rw [hN] at HRD
  have hfw : withF 9 ao cap L = .num N := by rw [← hN]; rfl
  have how : withOk 9 L = decide (N ≥ 0) := by rw [← hN]; rfl
  unfold WithP
  have ff := withF_fits 9 ao cap L
  rw [hfw] at ff
  clear hC hZ
  go_enter Try.func36, Try.ntmps36
  refine wp_seq (wp_region_lit ?_)
  refine st_to (some 3) rfl rfl (ex_box25 (C := C) rfl rfl) ?_
  simp only [Act.put, List.setIfInBounds_toArray, List.set_cons_zero, List.set_cons_succ]
  rw [hW0]
  refine st_to (some 6) rfl rfl (HAL.out _ _ _ rfl) ?_
  simp only [Act.put, List.setIfInBounds_toArray, List.set_cons_zero, List.set_cons_succ]
  rw [hW1, s0]
  refine st_to (some 7) rfl rfl (ex_asg (v := .bool false) rfl rfl) ?_
  simp only [Act.put, List.setIfInBounds_toArray, List.set_cons_zero, List.set_cons_succ]
  refine st_end ?_
  refine wp_seq (wp_region_lit ?_)
  refine st_to (some 12) rfl rfl (ex_mv (v := .slice ao nl cap) rfl rfl) ?_
  simp only [Act.put, List.setIfInBounds_toArray, List.set_cons_zero, List.set_cons_succ]
  refine st_call (some 13) rfl rfl HH (ex_call (f := 68) (vs := [.slice ao nl cap]) rfl (cfHash _) rfl) ?_
  rintro e W2 ⟨rfl, HB2⟩
  refine ⟨_, rfl, ?_⟩
  simp only [Act.put, List.setIfInBounds_toArray, List.set_cons_zero, List.set_cons_succ]
  have R8 := RowAt.new W2 (show Z32.length = 32 from rfl)
  obtain ⟨T8, R8'⟩ := set_row R8 (l' := X) lX
  have B2 := B1.trans (HB2.out.mono B1.size)
  have B3 := (B2.alloc B2.size (.cells (U8 Z32).toArray 22)).grown (grown_setCells W2.heap.size (U8 X).toArray.toList 0 _) (by simp; have := B2.size; omega) (fun k hk => by cases hk; exact B2.size)
  have z2 := HB2.out.size
  have hlt6 := M6.lt
  have Y3 : Below W2.heap.size W2 ((W2.alloc (.cells (U8 Z32).toArray 22)).setCells W2.heap.size 0 (U8 X).toArray.toList) := ((Below.refl _ _).alloc (Nat.le_refl _) _).grown (grown_setCells _ _ _ _) (by simp) (fun k hk => by cases hk; exact Nat.le_refl _)
  obtain ⟨W3, hW3⟩ : ∃ W3, (W2.alloc (.cells (U8 Z32).toArray 22)).setCells W2.heap.size 0 (U8 X).toArray.toList = W3 := ⟨_, rfl⟩
  rw [hW3] at R8' B3 Y3
  have P : Pre w W3 K F W2.heap.size X ao cap L := ⟨(M1.below HB2.out).below Y3, (M6.below HB2.out).below Y3, R8', B3, by omega⟩
  have s22 := size22 lX
  have o22 := all_oneCell_toArray (one_u8 X)
  have I3 := (I1.below HB2.out).below Y3
  rw [hY, hV] at T8 hW3
  rw [hV] at s22 o22
  refine st_to (some 11) rfl rfl (ex_mv (v := .tuple #[.agg V, .bool ok]) rfl rfl) ?_
  simp only [Act.put, List.setIfInBounds_toArray, List.set_cons_zero, List.set_cons_succ]
  refine st_to (some 14) rfl rfl (ex_ext (vs := #[.agg V, .bool ok]) (v := .agg V) rfl rfl rfl) ?_
  simp only [Act.put, List.setIfInBounds_toArray, List.set_cons_zero, List.set_cons_succ]
  refine st_to (some 15) rfl rfl (ex_ext (vs := #[.agg V, .bool ok]) (v := .bool ok) rfl rfl rfl) ?_
  simp only [Act.put, List.setIfInBounds_toArray, List.set_cons_zero, List.set_cons_succ]
  refine st_to (some 8) rfl rfl (HA2.out _ _ _ rfl) ?_
  simp only [Act.put, List.setIfInBounds_toArray, List.set_cons_zero, List.set_cons_succ]
  refine st_store (ty := 22) (x := .tmp 8) (y := .tmp 14) (b := W2.heap.size) (p := 0) (cells := V) rfl rfl rfl rfl rfl T8 s22 o22 ?_
  rw [hW3]
  refine st_to (some 9) rfl rfl (ex_asg (v := .bool ok) rfl rfl) ?_
  simp only [Act.put, List.setIfInBounds_toArray, List.set_cons_zero, List.set_cons_succ]
  refine st_end ?_
  refine wp_seq (wp_region_lit ?_)
  refine st_to (some 16) rfl rfl (ex_mv (v := .slice ao nl cap) rfl rfl) ?_
  simp only [Act.put, List.setIfInBounds_toArray, List.set_cons_zero, List.set_cons_succ]
  refine st_call (some 17) rfl rfl (HRD W3 I3) (ex_call (f := 69) (vs := [.slice ao nl cap]) rfl (cfRead _) rfl) ?_
  rintro e W3' ⟨rfl, hw3⟩
  subst W3'
  refine ⟨_, rfl, ?_⟩
  simp only [Act.put, List.setIfInBounds_toArray, List.set_cons_zero, List.set_cons_succ]
  refine st_to (some 10) rfl rfl (ex_asg (v := .int .i64 N) rfl rfl) ?_
  simp only [Act.put, List.setIfInBounds_toArray, List.set_cons_zero, List.set_cons_succ]
  refine st_end ?_
  refine wp_seq ?_
  refine wp_seq (wp_region_lit ?_)
  refine st_to (some 18) rfl rfl (ex_mv (v := .int .u64 19) rfl rfl) ?_
  simp only [Act.put, List.setIfInBounds_toArray, List.set_cons_zero, List.set_cons_succ]
  refine st_end ?_
  refine wp_block ?_
  refine wp_seq (wp_region_lit ?_)
  refine st_to (some 23) rfl rfl (ex_bin (c := .bool false) rfl rfl rfl (eg36 _ _ _ _ _ _) (eq36 19 1 _)) ?_
  simp only [Act.put, List.setIfInBounds_toArray, List.set_cons_zero, List.set_cons_succ]
  refine st_to (some 22) rfl rfl (ex_asg (v := .bool false) rfl rfl) ?_
  simp only [Act.put, List.setIfInBounds_toArray, List.set_cons_zero, List.set_cons_succ]
  refine st_end ?_
  refine wp_cond_false rfl ?_
  refine wp_seq (wp_region_lit ?_)
  refine st_to (some 27) rfl rfl (ex_bin (c := .bool false) rfl rfl rfl (eg36 _ _ _ _ _ _) (eq36 19 3 _)) ?_
  simp only [Act.put, List.setIfInBounds_toArray, List.set_cons_zero, List.set_cons_succ]
  refine st_to (some 26) rfl rfl (ex_asg (v := .bool false) rfl rfl) ?_
  simp only [Act.put, List.setIfInBounds_toArray, List.set_cons_zero, List.set_cons_succ]
  refine st_end ?_
  refine wp_cond_false rfl ?_
  refine wp_seq (wp_region_lit ?_)
  refine st_to (some 31) rfl rfl (ex_bin (c := .bool false) rfl rfl rfl (eg36 _ _ _ _ _ _) (eq36 19 5 _)) ?_
  simp only [Act.put, List.setIfInBounds_toArray, List.set_cons_zero, List.set_cons_succ]
  refine st_to (some 30) rfl rfl (ex_asg (v := .bool false) rfl rfl) ?_
  simp only [Act.put, List.setIfInBounds_toArray, List.set_cons_zero, List.set_cons_succ]
  refine st_end ?_
  refine wp_cond_false rfl ?_
  refine wp_seq (wp_region_lit ?_)
  refine st_to (some 35) rfl rfl (ex_bin (c := .bool false) rfl rfl rfl (eg36 _ _ _ _ _ _) (eq36 19 7 _)) ?_
  simp only [Act.put, List.setIfInBounds_toArray, List.set_cons_zero, List.set_cons_succ]
  refine st_to (some 34) rfl rfl (ex_asg (v := .bool false) rfl rfl) ?_
  simp only [Act.put, List.setIfInBounds_toArray, List.set_cons_zero, List.set_cons_succ]
  refine st_end ?_
  refine wp_cond_false rfl ?_
  refine wp_seq (wp_region_lit ?_)
  refine st_to (some 39) rfl rfl (ex_bin (c := .bool false) rfl rfl rfl (eg36 _ _ _ _ _ _) (eq36 19 9 _)) ?_
  simp only [Act.put, List.setIfInBounds_toArray, List.set_cons_zero, List.set_cons_succ]
  refine st_to (some 38) rfl rfl (ex_asg (v := .bool false) rfl rfl) ?_
  simp only [Act.put, List.setIfInBounds_toArray, List.set_cons_zero, List.set_cons_succ]
  refine st_end ?_
  refine wp_cond_false rfl ?_
  refine wp_seq (wp_region_lit ?_)
  refine st_to (some 45) rfl rfl (ex_bin (c := .bool false) rfl rfl rfl (eg36 _ _ _ _ _ _) (eq36 19 11 _)) ?_
  simp only [Act.put, List.setIfInBounds_toArray, List.set_cons_zero, List.set_cons_succ]
  refine st_to (some 44) rfl rfl (ex_asg (v := .bool false) rfl rfl) ?_
  simp only [Act.put, List.setIfInBounds_toArray, List.set_cons_zero, List.set_cons_succ]
  refine st_end ?_
  refine wp_cond_false rfl ?_
  refine wp_seq (wp_region_lit ?_)
  refine st_to (some 50) rfl rfl (ex_bin (c := .bool false) rfl rfl rfl (eg36 _ _ _ _ _ _) (eq36 19 13 _)) ?_
  simp only [Act.put, List.setIfInBounds_toArray, List.set_cons_zero, List.set_cons_succ]
  refine st_to (some 49) rfl rfl (ex_asg (v := .bool false) rfl rfl) ?_
  simp only [Act.put, List.setIfInBounds_toArray, List.set_cons_zero, List.set_cons_succ]
  refine st_end ?_
  refine wp_cond_false rfl ?_
  refine wp_seq (wp_region_lit ?_)
  refine st_to (some 56) rfl rfl (ex_bin (c := .bool false) rfl rfl rfl (eg36 _ _ _ _ _ _) (eq36 19 15 _)) ?_
  simp only [Act.put, List.setIfInBounds_toArray, List.set_cons_zero, List.set_cons_succ]
  refine st_to (some 55) rfl rfl (ex_asg (v := .bool false) rfl rfl) ?_
  simp only [Act.put, List.setIfInBounds_toArray, List.set_cons_zero, List.set_cons_succ]
  refine st_end ?_
  refine wp_cond_false rfl ?_
  refine wp_seq (wp_region_lit ?_)
  refine st_to (some 62) rfl rfl (ex_bin (c := .bool false) rfl rfl rfl (eg36 _ _ _ _ _ _) (eq36 19 17 _)) ?_
  simp only [Act.put, List.setIfInBounds_toArray, List.set_cons_zero, List.set_cons_succ]
  refine st_to (some 61) rfl rfl (ex_asg (v := .bool false) rfl rfl) ?_
  simp only [Act.put, List.setIfInBounds_toArray, List.set_cons_zero, List.set_cons_succ]
  refine st_end ?_
  refine wp_cond_false rfl ?_
  refine wp_seq (wp_region_lit ?_)
  refine st_to (some 68) rfl rfl (ex_bin (c := .bool true) rfl rfl rfl (eg36 _ _ _ _ _ _) (eq36 19 19 _)) ?_
  simp only [Act.put, List.setIfInBounds_toArray, List.set_cons_zero, List.set_cons_succ]
  refine st_to (some 67) rfl rfl (ex_asg (v := .bool true) rfl rfl) ?_
  simp only [Act.put, List.setIfInBounds_toArray, List.set_cons_zero, List.set_cons_succ]
  refine st_end ?_
  refine wp_cond_true rfl ?_
  obtain ⟨E1, E2, E3, E4⟩ := P.end_ (i := 9) (by omega) (f := .num N) ff
  have hfit := E1.fits
  have lE := run_loadAt_mid (P := Try.prog) _ w.heap.size 0 25 _ _ E1.range Try.underlying25 rfl (infoLen K hfit)
  have sE := infoSize K hfit
  have oE := oneMsg K (upd F 9 (.num N))
  have HP := hide (fun (tm : Array Value) (W2 : World) (v : Value) (h1 : tm.getD 6 undef = .pointer (some ⟨w.heap.size + 1, 0, none⟩)) (h2 : tm.getD 7 undef = v) (h3 : W2.rangeAt (w.heap.size + 1) 0 (mc K (upd F 9 (.num N)))) => ret_msg2 Try.results36 tm W2 (w.heap.size + 1) K hfit v h1 h2 h3)
  obtain ⟨Q, hQ⟩ : ∃ Q, mc K (upd F 9 (.num N)) = Q := ⟨_, rfl⟩
  rw [hQ] at E2 E3 E4 lE sE oE HP
  have fr : W3.frozen? ⟨w.heap.size, 134, none⟩ = false := P.m.free (i := 9) (by omega)
  obtain ⟨W4, hW4⟩ : ∃ W4, W3.setCells w.heap.size (off 9) (.num N : Fld).cells = W4 := ⟨_, rfl⟩
  rw [hW4] at E1 E2 E3 E4 lE
  obtain ⟨x, hx⟩ := fits_num (hF 9 (by omega)) rfl
  have q := P.m.num (i := 9) (by omega) hx
  have hset : W3.setCell ⟨w.heap.size, 134, none⟩ (.int .i64 N) = W4 := hW4
  refine wp_region_lit ?_
  refine st_to (some 69) rfl rfl (ex_mv (v := .int .i64 N) rfl rfl) ?_
  simp only [Act.put, List.setIfInBounds_toArray, List.set_cons_zero, List.set_cons_succ]
  refine st_to (some 70) rfl rfl (ex_fld rfl rfl (fa10 _ _)) ?_
  simp only [Act.put, List.setIfInBounds_toArray, List.set_cons_zero, List.set_cons_succ]
  refine st_sk rfl rfl (ex_sto3 rfl rfl rfl q fr) ?_
  rw [hset]
  refine st_end ?_
  refine blk_out ?_
  refine wp_seq (wp_region_lit ?_)
  refine st_to (some 75) rfl rfl (ex_load rfl rfl lE) ?_
  simp only [Act.put, List.setIfInBounds_toArray, List.set_cons_zero, List.set_cons_succ]
  refine st_to (some 76) rfl rfl (ex_mv (v := .int .i64 N) rfl rfl) ?_
  simp only [Act.put, List.setIfInBounds_toArray, List.set_cons_zero, List.set_cons_succ]
  refine st_to (some 77) rfl rfl (ex_bin (c := .bool (decide (N ≥ 0))) rfl rfl rfl (eg3' _ _ _ _ _ _) (geq3 _ _ _)) ?_
  simp only [Act.put, List.setIfInBounds_toArray, List.set_cons_zero, List.set_cons_succ]
  refine st_store (ty := 25) (x := .tmp 6) (y := .tmp 75) (b := w.heap.size + 1) (p := 0) (cells := Q.toArray) rfl rfl rfl rfl rfl E2 sE oE ?_
  refine st_to (some 7) rfl rfl (ex_asg (v := .bool (decide (N ≥ 0))) rfl rfl) ?_
  simp only [Act.put, List.setIfInBounds_toArray, List.set_cons_zero, List.set_cons_succ]
  refine st_end ?_
  refine wp_ret ?_
  refine bodyPost_ret (HP.out _ _ (.bool (decide (N ≥ 0))) rfl rfl E3) rfl ⟨by rw [hfw, hQ, how], E4⟩
set_option maxHeartbeats 4000000 in
theorem with10 (K : Int) (F : Nat → Fld) (hF : Fits F) (ao : Option Addr) (cap : Nat) (L : List Int) (w : World) (hI : IsB w ao cap L) (hL : Bytes L) (hn : L.length ≤ 9223372036854775807) :
    Calls Try.prog 36 #[.agg (mc K F).toArray, .int .u64 21, .slice ao L.length cap] w (WithP 10 K F ao cap L w) := by
  have HAL := hide (fun (a : Act) (W : World) (o : Oper) (ho : o.op = .alloc 25) => ex_alloc25 (a := a) (W := W) ho)
  have HA2 := hide (fun (a : Act) (W : World) (o : Oper) (ho : o.op = .alloc 22) => ex_alloc22 (a := a) (W := W) ho)
  obtain ⟨W0, hW0⟩ : ∃ W0, w.alloc (.cells (mc K F).toArray 25) = W0 := ⟨_, rfl⟩
  obtain ⟨W1, hW1⟩ : ∃ W1, W0.alloc (.cells (mc 0 ZF).toArray 25) = W1 := ⟨_, rfl⟩
  have s0 : W0.heap.size = w.heap.size + 1 := by rw [← hW0]; simp
  have M1 : MsgAt W1 w.heap.size K F := by rw [← hW1, ← hW0]; exact (MsgAt.new w K hF).below (below_alloc _ _)
  have M6 : MsgAt W1 (w.heap.size + 1) 0 ZF := by rw [← s0, ← hW1]; exact MsgAt.new W0 0 ZFits
  have B1 : Below w.heap.size w W1 := by rw [← hW1, ← hW0]; exact ((Below.refl _ _).alloc (Nat.le_refl _) _).alloc (by simp) _
  have I1 := hI.below B1
  have HH := hash_any ao cap L W1 I1 hn
  obtain ⟨X, hX⟩ : ∃ X, hashL L = X := ⟨_, rfl⟩
  have lX : X.length = 32 := by rw [← hX]; exact hashL_len L
  rw [hX] at HH
  obtain ⟨ok, hok⟩ : ∃ ok, decide (L.length = 32) = ok := ⟨_, rfl⟩
  rw [hok] at HH
  obtain ⟨C, hC⟩ : ∃ C, (mc K F).toArray = C := ⟨_, rfl⟩
  obtain ⟨Z, hZ⟩ : ∃ Z, (mc 0 ZF).toArray = Z := ⟨_, rfl⟩
  obtain ⟨Y, hY⟩ : ∃ Y, (U8 Z32).toArray = Y := ⟨_, rfl⟩
  obtain ⟨V, hV⟩ : ∃ V, (U8 X).toArray = V := ⟨_, rfl⟩
  rw [hC] at hW0 ⊢
  rw [hZ] at hW1 HAL
  rw [hY] at HA2
  rw [hV] at HH
  obtain ⟨nl, hnl⟩ : ∃ nl, L.length = nl := ⟨_, rfl⟩
  have HRD := fun (W : World) (h : IsB W ao cap L) => r6read_any ao cap L W h hL hn
  rw [hnl] at HH HRD ⊢
  obtain ⟨N, hN⟩ : ∃ N, rdNumI L = N := ⟨_, rfl⟩
  rw [hN] at HRD
  have hfw : withF 10 ao cap L = .num N := by rw [← hN]; rfl
  have how : withOk 10 L = decide (N ≥ 0) := by rw [← hN]; rfl
  unfold WithP
  have ff := withF_fits 10 ao cap L
  rw [hfw] at ff
  clear hC hZ
  go_enter Try.func36, Try.ntmps36
  refine wp_seq (wp_region_lit ?_)
  refine st_to (some 3) rfl rfl (ex_box25 (C := C) rfl rfl) ?_
  simp only [Act.put, List.setIfInBounds_toArray, List.set_cons_zero, List.set_cons_succ]
  rw [hW0]
  refine st_to (some 6) rfl rfl (HAL.out _ _ _ rfl) ?_
  simp only [Act.put, List.setIfInBounds_toArray, List.set_cons_zero, List.set_cons_succ]
  rw [hW1, s0]
  refine st_to (some 7) rfl rfl (ex_asg (v := .bool false) rfl rfl) ?_
  simp only [Act.put, List.setIfInBounds_toArray, List.set_cons_zero, List.set_cons_succ]
  refine st_end ?_
  refine wp_seq (wp_region_lit ?_)
  refine st_to (some 12) rfl rfl (ex_mv (v := .slice ao nl cap) rfl rfl) ?_
  simp only [Act.put, List.setIfInBounds_toArray, List.set_cons_zero, List.set_cons_succ]
  refine st_call (some 13) rfl rfl HH (ex_call (f := 68) (vs := [.slice ao nl cap]) rfl (cfHash _) rfl) ?_
  rintro e W2 ⟨rfl, HB2⟩
  refine ⟨_, rfl, ?_⟩
  simp only [Act.put, List.setIfInBounds_toArray, List.set_cons_zero, List.set_cons_succ]
  have R8 := RowAt.new W2 (show Z32.length = 32 from rfl)
  obtain ⟨T8, R8'⟩ := set_row R8 (l' := X) lX
  have B2 := B1.trans (HB2.out.mono B1.size)
  have B3 := (B2.alloc B2.size (.cells (U8 Z32).toArray 22)).grown (grown_setCells W2.heap.size (U8 X).toArray.toList 0 _) (by simp; have := B2.size; omega) (fun k hk => by cases hk; exact B2.size)
  have z2 := HB2.out.size
  have hlt6 := M6.lt
  have Y3 : Below W2.heap.size W2 ((W2.alloc (.cells (U8 Z32).toArray 22)).setCells W2.heap.size 0 (U8 X).toArray.toList) := ((Below.refl _ _).alloc (Nat.le_refl _) _).grown (grown_setCells _ _ _ _) (by simp) (fun k hk => by cases hk; exact Nat.le_refl _)
  obtain ⟨W3, hW3⟩ : ∃ W3, (W2.alloc (.cells (U8 Z32).toArray 22)).setCells W2.heap.size 0 (U8 X).toArray.toList = W3 := ⟨_, rfl⟩
  rw [hW3] at R8' B3 Y3
  have P : Pre w W3 K F W2.heap.size X ao cap L := ⟨(M1.below HB2.out).below Y3, (M6.below HB2.out).below Y3, R8', B3, by omega⟩
  have s22 := size22 lX
  have o22 := all_oneCell_toArray (one_u8 X)
  have I3 := (I1.below HB2.out).below Y3
  rw [hY, hV] at T8 hW3
  rw [hV] at s22 o22
  refine st_to (some 11) rfl rfl (ex_mv (v := .tuple #[.agg V, .bool ok]) rfl rfl) ?_
  simp only [Act.put, List.setIfInBounds_toArray, List.set_cons_zero, List.set_cons_succ]
  refine st_to (some 14) rfl rfl (ex_ext (vs := #[.agg V, .bool ok]) (v := .agg V) rfl rfl rfl) ?_
  simp only [Act.put, List.setIfInBounds_toArray, List.set_cons_zero, List.set_cons_succ]
  refine st_to (some 15) rfl rfl (ex_ext (vs := #[.agg V, .bool ok]) (v := .bool ok) rfl rfl rfl) ?_
  simp only [Act.put, List.setIfInBounds_toArray, List.set_cons_zero, List.set_cons_succ]
  refine st_to (some 8) rfl rfl (HA2.out _ _ _ rfl) ?_
  simp only [Act.put, List.setIfInBounds_toArray, List.set_cons_zero, List.set_cons_succ]
  refine st_store (ty := 22) (x := .tmp 8) (y := .tmp 14) (b := W2.heap.size) (p := 0) (cells := V) rfl rfl rfl rfl rfl T8 s22 o22 ?_
  rw [hW3]
  refine st_to (some 9) rfl rfl (ex_asg (v := .bool ok) rfl rfl) ?_
  simp only [Act.put, List.setIfInBounds_toArray, List.set_cons_zero, List.set_cons_succ]
  refine st_end ?_
  refine wp_seq (wp_region_lit ?_)
  refine st_to (some 16) rfl rfl (ex_mv (v := .slice ao nl cap) rfl rfl) ?_
  simp only [Act.put, List.setIfInBounds_toArray, List.set_cons_zero, List.set_cons_succ]
  refine st_call (some 17) rfl rfl (HRD W3 I3) (ex_call (f := 69) (vs := [.slice ao nl cap]) rfl (cfRead _) rfl) ?_
  rintro e W3' ⟨rfl, hw3⟩
  subst W3'
  refine ⟨_, rfl, ?_⟩
  simp only [Act.put, List.setIfInBounds_toArray, List.set_cons_zero, List.set_cons_succ]
  refine st_to (some 10) rfl rfl (ex_asg (v := .int .i64 N) rfl rfl) ?_
  simp only [Act.put, List.setIfInBounds_toArray, List.set_cons_zero, List.set_cons_succ]
  refine st_end ?_
  refine wp_seq ?_
  refine wp_seq (wp_region_lit ?_)
  refine st_to (some 18) rfl rfl (ex_mv (v := .int .u64 21) rfl rfl) ?_
  simp only [Act.put, List.setIfInBounds_toArray, List.set_cons_zero, List.set_cons_succ]
  refine st_end ?_
  refine wp_block ?_
  refine wp_seq (wp_region_lit ?_)
  refine st_to (some 23) rfl rfl (ex_bin (c := .bool false) rfl rfl rfl (eg36 _ _ _ _ _ _) (eq36 21 1 _)) ?_
  simp only [Act.put, List.setIfInBounds_toArray, List.set_cons_zero, List.set_cons_succ]
  refine st_to (some 22) rfl rfl (ex_asg (v := .bool false) rfl rfl) ?_
  simp only [Act.put, List.setIfInBounds_toArray, List.set_cons_zero, List.set_cons_succ]
  refine st_end ?_
  refine wp_cond_false rfl ?_
  refine wp_seq (wp_region_lit ?_)
  refine st_to (some 27) rfl rfl (ex_bin (c := .bool false) rfl rfl rfl (eg36 _ _ _ _ _ _) (eq36 21 3 _)) ?_
  simp only [Act.put, List.setIfInBounds_toArray, List.set_cons_zero, List.set_cons_succ]
  refine st_to (some 26) rfl rfl (ex_asg (v := .bool false) rfl rfl) ?_
  simp only [Act.put, List.setIfInBounds_toArray, List.set_cons_zero, List.set_cons_succ]
  refine st_end ?_
  refine wp_cond_false rfl ?_
  refine wp_seq (wp_region_lit ?_)
  refine st_to (some 31) rfl rfl (ex_bin (c := .bool false) rfl rfl rfl (eg36 _ _ _ _ _ _) (eq36 21 5 _)) ?_
  simp only [Act.put, List.setIfInBounds_toArray, List.set_cons_zero, List.set_cons_succ]
  refine st_to (some 30) rfl rfl (ex_asg (v := .bool false) rfl rfl) ?_
  simp only [Act.put, List.setIfInBounds_toArray, List.set_cons_zero, List.set_cons_succ]
  refine st_end ?_
  refine wp_cond_false rfl ?_
  refine wp_seq (wp_region_lit ?_)
  refine st_to (some 35) rfl rfl (ex_bin (c := .bool false) rfl rfl rfl (eg36 _ _ _ _ _ _) (eq36 21 7 _)) ?_
  simp only [Act.put, List.setIfInBounds_toArray, List.set_cons_zero, List.set_cons_succ]
  refine st_to (some 34) rfl rfl (ex_asg (v := .bool false) rfl rfl) ?_
  simp only [Act.put, List.setIfInBounds_toArray, List.set_cons_zero, List.set_cons_succ]
  refine st_end ?_
  refine wp_cond_false rfl ?_
  refine wp_seq (wp_region_lit ?_)
  refine st_to (some 39) rfl rfl (ex_bin (c := .bool false) rfl rfl rfl (eg36 _ _ _ _ _ _) (eq36 21 9 _)) ?_
  simp only [Act.put, List.setIfInBounds_toArray, List.set_cons_zero, List.set_cons_succ]
  refine st_to (some 38) rfl rfl (ex_asg (v := .bool false) rfl rfl) ?_
  simp only [Act.put, List.setIfInBounds_toArray, List.set_cons_zero, List.set_cons_succ]
  refine st_end ?_
  refine wp_cond_false rfl ?_
  refine wp_seq (wp_region_lit ?_)
  refine st_to (some 45) rfl rfl (ex_bin (c := .bool false) rfl rfl rfl (eg36 _ _ _ _ _ _) (eq36 21 11 _)) ?_
  simp only [Act.put, List.setIfInBounds_toArray, List.set_cons_zero, List.set_cons_succ]
  refine st_to (some 44) rfl rfl (ex_asg (v := .bool false) rfl rfl) ?_
  simp only [Act.put, List.setIfInBounds_toArray, List.set_cons_zero, List.set_cons_succ]
  refine st_end ?_
  refine wp_cond_false rfl ?_
  refine wp_seq (wp_region_lit ?_)
  refine st_to (some 50) rfl rfl (ex_bin (c := .bool false) rfl rfl rfl (eg36 _ _ _ _ _ _) (eq36 21 13 _)) ?_
  simp only [Act.put, List.setIfInBounds_toArray, List.set_cons_zero, List.set_cons_succ]
  refine st_to (some 49) rfl rfl (ex_asg (v := .bool false) rfl rfl) ?_
  simp only [Act.put, List.setIfInBounds_toArray, List.set_cons_zero, List.set_cons_succ]
  refine st_end ?_
  refine wp_cond_false rfl ?_
  refine wp_seq (wp_region_lit ?_)
  refine st_to (some 56) rfl rfl (ex_bin (c := .bool false) rfl rfl rfl (eg36 _ _ _ _ _ _) (eq36 21 15 _)) ?_
  simp only [Act.put, List.setIfInBounds_toArray, List.set_cons_zero, List.set_cons_succ]
  refine st_to (some 55) rfl rfl (ex_asg (v := .bool false) rfl rfl) ?_
  simp only [Act.put, List.setIfInBounds_toArray, List.set_cons_zero, List.set_cons_succ]
  refine st_end ?_
  refine wp_cond_false rfl ?_
  refine wp_seq (wp_region_lit ?_)
  refine st_to (some 62) rfl rfl (ex_bin (c := .bool false) rfl rfl rfl (eg36 _ _ _ _ _ _) (eq36 21 17 _)) ?_
  simp only [Act.put, List.setIfInBounds_toArray, List.set_cons_zero, List.set_cons_succ]
  refine st_to (some 61) rfl rfl (ex_asg (v := .bool false) rfl rfl) ?_
  simp only [Act.put, List.setIfInBounds_toArray, List.set_cons_zero, List.set_cons_succ]
  refine st_end ?_
  refine wp_cond_false rfl ?_
  refine wp_seq (wp_region_lit ?_)
  refine st_to (some 68) rfl rfl (ex_bin (c := .bool false) rfl rfl rfl (eg36 _ _ _ _ _ _) (eq36 21 19 _)) ?_
  simp only [Act.put, List.setIfInBounds_toArray, List.set_cons_zero, List.set_cons_succ]
  refine st_to (some 67) rfl rfl (ex_asg (v := .bool false) rfl rfl) ?_
  simp only [Act.put, List.setIfInBounds_toArray, List.set_cons_zero, List.set_cons_succ]
  refine st_end ?_
  refine wp_cond_false rfl ?_
  refine wp_seq (wp_region_lit ?_)
  refine st_to (some 72) rfl rfl (ex_bin (c := .bool true) rfl rfl rfl (eg36 _ _ _ _ _ _) (eq36 21 21 _)) ?_
  simp only [Act.put, List.setIfInBounds_toArray, List.set_cons_zero, List.set_cons_succ]
  refine st_to (some 71) rfl rfl (ex_asg (v := .bool true) rfl rfl) ?_
  simp only [Act.put, List.setIfInBounds_toArray, List.set_cons_zero, List.set_cons_succ]
  refine st_end ?_
  refine wp_cond_true rfl ?_
  obtain ⟨E1, E2, E3, E4⟩ := P.end_ (i := 10) (by omega) (f := .num N) ff
  have hfit := E1.fits
  have lE := run_loadAt_mid (P := Try.prog) _ w.heap.size 0 25 _ _ E1.range Try.underlying25 rfl (infoLen K hfit)
  have sE := infoSize K hfit
  have oE := oneMsg K (upd F 10 (.num N))
  have HP := hide (fun (tm : Array Value) (W2 : World) (v : Value) (h1 : tm.getD 6 undef = .pointer (some ⟨w.heap.size + 1, 0, none⟩)) (h2 : tm.getD 7 undef = v) (h3 : W2.rangeAt (w.heap.size + 1) 0 (mc K (upd F 10 (.num N)))) => ret_msg2 Try.results36 tm W2 (w.heap.size + 1) K hfit v h1 h2 h3)
  obtain ⟨Q, hQ⟩ : ∃ Q, mc K (upd F 10 (.num N)) = Q := ⟨_, rfl⟩
  rw [hQ] at E2 E3 E4 lE sE oE HP
  have fr : W3.frozen? ⟨w.heap.size, 135, none⟩ = false := P.m.free (i := 10) (by omega)
  obtain ⟨W4, hW4⟩ : ∃ W4, W3.setCells w.heap.size (off 10) (.num N : Fld).cells = W4 := ⟨_, rfl⟩
  rw [hW4] at E1 E2 E3 E4 lE
  obtain ⟨x, hx⟩ := fits_num (hF 10 (by omega)) rfl
  have q := P.m.num (i := 10) (by omega) hx
  have hset : W3.setCell ⟨w.heap.size, 135, none⟩ (.int .i64 N) = W4 := hW4
  refine wp_region_lit ?_
  refine st_to (some 73) rfl rfl (ex_mv (v := .int .i64 N) rfl rfl) ?_
  simp only [Act.put, List.setIfInBounds_toArray, List.set_cons_zero, List.set_cons_succ]
  refine st_to (some 74) rfl rfl (ex_fld rfl rfl (fa11 _ _)) ?_
  simp only [Act.put, List.setIfInBounds_toArray, List.set_cons_zero, List.set_cons_succ]
  refine st_sk rfl rfl (ex_sto3 rfl rfl rfl q fr) ?_
  rw [hset]
  refine st_end ?_
  refine blk_out ?_
  refine wp_seq (wp_region_lit ?_)
  refine st_to (some 75) rfl rfl (ex_load rfl rfl lE) ?_
  simp only [Act.put, List.setIfInBounds_toArray, List.set_cons_zero, List.set_cons_succ]
  refine st_to (some 76) rfl rfl (ex_mv (v := .int .i64 N) rfl rfl) ?_
  simp only [Act.put, List.setIfInBounds_toArray, List.set_cons_zero, List.set_cons_succ]
  refine st_to (some 77) rfl rfl (ex_bin (c := .bool (decide (N ≥ 0))) rfl rfl rfl (eg3' _ _ _ _ _ _) (geq3 _ _ _)) ?_
  simp only [Act.put, List.setIfInBounds_toArray, List.set_cons_zero, List.set_cons_succ]
  refine st_store (ty := 25) (x := .tmp 6) (y := .tmp 75) (b := w.heap.size + 1) (p := 0) (cells := Q.toArray) rfl rfl rfl rfl rfl E2 sE oE ?_
  refine st_to (some 7) rfl rfl (ex_asg (v := .bool (decide (N ≥ 0))) rfl rfl) ?_
  simp only [Act.put, List.setIfInBounds_toArray, List.set_cons_zero, List.set_cons_succ]
  refine st_end ?_
  refine wp_ret ?_
  refine bodyPost_ret (HP.out _ _ (.bool (decide (N ≥ 0))) rfl rfl E3) rfl ⟨by rw [hfw, hQ, how], E4⟩
set_option maxHeartbeats 4000000 in
theorem with11 (K : Int) (F : Nat → Fld) (hF : Fits F) (ao : Option Addr) (cap : Nat) (L : List Int) (w : World) (hI : IsB w ao cap L) (hL : Bytes L) (hn : L.length ≤ 9223372036854775807) :
    Calls Try.prog 36 #[.agg (mc K F).toArray, .int .u64 23, .slice ao L.length cap] w (WithP 11 K F ao cap L w) := by
  have HAL := hide (fun (a : Act) (W : World) (o : Oper) (ho : o.op = .alloc 25) => ex_alloc25 (a := a) (W := W) ho)
  have HA2 := hide (fun (a : Act) (W : World) (o : Oper) (ho : o.op = .alloc 22) => ex_alloc22 (a := a) (W := W) ho)
  obtain ⟨W0, hW0⟩ : ∃ W0, w.alloc (.cells (mc K F).toArray 25) = W0 := ⟨_, rfl⟩
  obtain ⟨W1, hW1⟩ : ∃ W1, W0.alloc (.cells (mc 0 ZF).toArray 25) = W1 := ⟨_, rfl⟩
  have s0 : W0.heap.size = w.heap.size + 1 := by rw [← hW0]; simp
  have M1 : MsgAt W1 w.heap.size K F := by rw [← hW1, ← hW0]; exact (MsgAt.new w K hF).below (below_alloc _ _)
  have M6 : MsgAt W1 (w.heap.size + 1) 0 ZF := by rw [← s0, ← hW1]; exact MsgAt.new W0 0 ZFits
  have B1 : Below w.heap.size w W1 := by rw [← hW1, ← hW0]; exact ((Below.refl _ _).alloc (Nat.le_refl _) _).alloc (by simp) _
  have I1 := hI.below B1
  have HH := hash_any ao cap L W1 I1 hn
  obtain ⟨X, hX⟩ : ∃ X, hashL L = X := ⟨_, rfl⟩
  have lX : X.length = 32 := by rw [← hX]; exact hashL_len L
  rw [hX] at HH
  obtain ⟨ok, hok⟩ : ∃ ok, decide (L.length = 32) = ok := ⟨_, rfl⟩
  rw [hok] at HH
  obtain ⟨C, hC⟩ : ∃ C, (mc K F).toArray = C := ⟨_, rfl⟩
  obtain ⟨Z, hZ⟩ : ∃ Z, (mc 0 ZF).toArray = Z := ⟨_, rfl⟩
  obtain ⟨Y, hY⟩ : ∃ Y, (U8 Z32).toArray = Y := ⟨_, rfl⟩
  obtain ⟨V, hV⟩ : ∃ V, (U8 X).toArray = V := ⟨_, rfl⟩
  rw [hC] at hW0 ⊢
  rw [hZ] at hW1 HAL
  rw [hY] at HA2
  rw [hV] at HH
  obtain ⟨nl, hnl⟩ : ∃ nl, L.length = nl := ⟨_, rfl⟩
  have HRD := fun (W : World) (h : IsB W ao cap L) => r6read_any ao cap L W h hL hn
  rw [hnl] at HH HRD ⊢
  obtain ⟨N, hN⟩ : ∃ N, rdNumI L = N := ⟨_, rfl⟩
  rw [hN] at HRD
  have hfw : withF 11 ao cap L = .lst ao cap L := by rfl
  have how : withOk 11 L = true := by rfl
  unfold WithP
  have ff := withF_fits 11 ao cap L
  rw [hfw] at ff
  clear hC hZ
  go_enter Try.func36, Try.ntmps36
  refine wp_seq (wp_region_lit ?_)
  refine st_to (some 3) rfl rfl (ex_box25 (C := C) rfl rfl) ?_
  simp only [Act.put, List.setIfInBounds_toArray, List.set_cons_zero, List.set_cons_succ]
  rw [hW0]
  refine st_to (some 6) rfl rfl (HAL.out _ _ _ rfl) ?_
  simp only [Act.put, List.setIfInBounds_toArray, List.set_cons_zero, List.set_cons_succ]
  rw [hW1, s0]
  refine st_to (some 7) rfl rfl (ex_asg (v := .bool false) rfl rfl) ?_
  simp only [Act.put, List.setIfInBounds_toArray, List.set_cons_zero, List.set_cons_succ]
  refine st_end ?_
  refine wp_seq (wp_region_lit ?_)
  refine st_to (some 12) rfl rfl (ex_mv (v := .slice ao nl cap) rfl rfl) ?_
  simp only [Act.put, List.setIfInBounds_toArray, List.set_cons_zero, List.set_cons_succ]
  refine st_call (some 13) rfl rfl HH (ex_call (f := 68) (vs := [.slice ao nl cap]) rfl (cfHash _) rfl) ?_
  rintro e W2 ⟨rfl, HB2⟩
  refine ⟨_, rfl, ?_⟩
  simp only [Act.put, List.setIfInBounds_toArray, List.set_cons_zero, List.set_cons_succ]
  have R8 := RowAt.new W2 (show Z32.length = 32 from rfl)
  obtain ⟨T8, R8'⟩ := set_row R8 (l' := X) lX
  have B2 := B1.trans (HB2.out.mono B1.size)
  have B3 := (B2.alloc B2.size (.cells (U8 Z32).toArray 22)).grown (grown_setCells W2.heap.size (U8 X).toArray.toList 0 _) (by simp; have := B2.size; omega) (fun k hk => by cases hk; exact B2.size)
  have z2 := HB2.out.size
  have hlt6 := M6.lt
  have Y3 : Below W2.heap.size W2 ((W2.alloc (.cells (U8 Z32).toArray 22)).setCells W2.heap.size 0 (U8 X).toArray.toList) := ((Below.refl _ _).alloc (Nat.le_refl _) _).grown (grown_setCells _ _ _ _) (by simp) (fun k hk => by cases hk; exact Nat.le_refl _)
  obtain ⟨W3, hW3⟩ : ∃ W3, (W2.alloc (.cells (U8 Z32).toArray 22)).setCells W2.heap.size 0 (U8 X).toArray.toList = W3 := ⟨_, rfl⟩
  rw [hW3] at R8' B3 Y3
  have P : Pre w W3 K F W2.heap.size X ao cap L := ⟨(M1.below HB2.out).below Y3, (M6.below HB2.out).below Y3, R8', B3, by omega⟩
  have s22 := size22 lX
  have o22 := all_oneCell_toArray (one_u8 X)
  have I3 := (I1.below HB2.out).below Y3
  rw [hY, hV] at T8 hW3
  rw [hV] at s22 o22
  refine st_to (some 11) rfl rfl (ex_mv (v := .tuple #[.agg V, .bool ok]) rfl rfl) ?_
  simp only [Act.put, List.setIfInBounds_toArray, List.set_cons_zero, List.set_cons_succ]
  refine st_to (some 14) rfl rfl (ex_ext (vs := #[.agg V, .bool ok]) (v := .agg V) rfl rfl rfl) ?_
  simp only [Act.put, List.setIfInBounds_toArray, List.set_cons_zero, List.set_cons_succ]
  refine st_to (some 15) rfl rfl (ex_ext (vs := #[.agg V, .bool ok]) (v := .bool ok) rfl rfl rfl) ?_
  simp only [Act.put, List.setIfInBounds_toArray, List.set_cons_zero, List.set_cons_succ]
  refine st_to (some 8) rfl rfl (HA2.out _ _ _ rfl) ?_
  simp only [Act.put, List.setIfInBounds_toArray, List.set_cons_zero, List.set_cons_succ]
  refine st_store (ty := 22) (x := .tmp 8) (y := .tmp 14) (b := W2.heap.size) (p := 0) (cells := V) rfl rfl rfl rfl rfl T8 s22 o22 ?_
  rw [hW3]
  refine st_to (some 9) rfl rfl (ex_asg (v := .bool ok) rfl rfl) ?_
  simp only [Act.put, List.setIfInBounds_toArray, List.set_cons_zero, List.set_cons_succ]
  refine st_end ?_
  refine wp_seq (wp_region_lit ?_)
  refine st_to (some 16) rfl rfl (ex_mv (v := .slice ao nl cap) rfl rfl) ?_
  simp only [Act.put, List.setIfInBounds_toArray, List.set_cons_zero, List.set_cons_succ]
  refine st_call (some 17) rfl rfl (HRD W3 I3) (ex_call (f := 69) (vs := [.slice ao nl cap]) rfl (cfRead _) rfl) ?_
  rintro e W3' ⟨rfl, hw3⟩
  subst W3'
  refine ⟨_, rfl, ?_⟩
  simp only [Act.put, List.setIfInBounds_toArray, List.set_cons_zero, List.set_cons_succ]
  refine st_to (some 10) rfl rfl (ex_asg (v := .int .i64 N) rfl rfl) ?_
  simp only [Act.put, List.setIfInBounds_toArray, List.set_cons_zero, List.set_cons_succ]
  refine st_end ?_
  refine wp_seq ?_
  refine wp_seq (wp_region_lit ?_)
  refine st_to (some 18) rfl rfl (ex_mv (v := .int .u64 23) rfl rfl) ?_
  simp only [Act.put, List.setIfInBounds_toArray, List.set_cons_zero, List.set_cons_succ]
  refine st_end ?_
  refine wp_block ?_
  refine wp_seq (wp_region_lit ?_)
  refine st_to (some 23) rfl rfl (ex_bin (c := .bool false) rfl rfl rfl (eg36 _ _ _ _ _ _) (eq36 23 1 _)) ?_
  simp only [Act.put, List.setIfInBounds_toArray, List.set_cons_zero, List.set_cons_succ]
  refine st_to (some 22) rfl rfl (ex_asg (v := .bool false) rfl rfl) ?_
  simp only [Act.put, List.setIfInBounds_toArray, List.set_cons_zero, List.set_cons_succ]
  refine st_end ?_
  refine wp_cond_false rfl ?_
  refine wp_seq (wp_region_lit ?_)
  refine st_to (some 27) rfl rfl (ex_bin (c := .bool false) rfl rfl rfl (eg36 _ _ _ _ _ _) (eq36 23 3 _)) ?_
  simp only [Act.put, List.setIfInBounds_toArray, List.set_cons_zero, List.set_cons_succ]
  refine st_to (some 26) rfl rfl (ex_asg (v := .bool false) rfl rfl) ?_
  simp only [Act.put, List.setIfInBounds_toArray, List.set_cons_zero, List.set_cons_succ]
  refine st_end ?_
  refine wp_cond_false rfl ?_
  refine wp_seq (wp_region_lit ?_)
  refine st_to (some 31) rfl rfl (ex_bin (c := .bool false) rfl rfl rfl (eg36 _ _ _ _ _ _) (eq36 23 5 _)) ?_
  simp only [Act.put, List.setIfInBounds_toArray, List.set_cons_zero, List.set_cons_succ]
  refine st_to (some 30) rfl rfl (ex_asg (v := .bool false) rfl rfl) ?_
  simp only [Act.put, List.setIfInBounds_toArray, List.set_cons_zero, List.set_cons_succ]
  refine st_end ?_
  refine wp_cond_false rfl ?_
  refine wp_seq (wp_region_lit ?_)
  refine st_to (some 35) rfl rfl (ex_bin (c := .bool false) rfl rfl rfl (eg36 _ _ _ _ _ _) (eq36 23 7 _)) ?_
  simp only [Act.put, List.setIfInBounds_toArray, List.set_cons_zero, List.set_cons_succ]
  refine st_to (some 34) rfl rfl (ex_asg (v := .bool false) rfl rfl) ?_
  simp only [Act.put, List.setIfInBounds_toArray, List.set_cons_zero, List.set_cons_succ]
  refine st_end ?_
  refine wp_cond_false rfl ?_
  refine wp_seq (wp_region_lit ?_)
  refine st_to (some 39) rfl rfl (ex_bin (c := .bool false) rfl rfl rfl (eg36 _ _ _ _ _ _) (eq36 23 9 _)) ?_
  simp only [Act.put, List.setIfInBounds_toArray, List.set_cons_zero, List.set_cons_succ]
  refine st_to (some 38) rfl rfl (ex_asg (v := .bool false) rfl rfl) ?_
  simp only [Act.put, List.setIfInBounds_toArray, List.set_cons_zero, List.set_cons_succ]
  refine st_end ?_
  refine wp_cond_false rfl ?_
  refine wp_seq (wp_region_lit ?_)
  refine st_to (some 45) rfl rfl (ex_bin (c := .bool false) rfl rfl rfl (eg36 _ _ _ _ _ _) (eq36 23 11 _)) ?_
  simp only [Act.put, List.setIfInBounds_toArray, List.set_cons_zero, List.set_cons_succ]
  refine st_to (some 44) rfl rfl (ex_asg (v := .bool false) rfl rfl) ?_
  simp only [Act.put, List.setIfInBounds_toArray, List.set_cons_zero, List.set_cons_succ]
  refine st_end ?_
  refine wp_cond_false rfl ?_
  refine wp_seq (wp_region_lit ?_)
  refine st_to (some 50) rfl rfl (ex_bin (c := .bool false) rfl rfl rfl (eg36 _ _ _ _ _ _) (eq36 23 13 _)) ?_
  simp only [Act.put, List.setIfInBounds_toArray, List.set_cons_zero, List.set_cons_succ]
  refine st_to (some 49) rfl rfl (ex_asg (v := .bool false) rfl rfl) ?_
  simp only [Act.put, List.setIfInBounds_toArray, List.set_cons_zero, List.set_cons_succ]
  refine st_end ?_
  refine wp_cond_false rfl ?_
  refine wp_seq (wp_region_lit ?_)
  refine st_to (some 56) rfl rfl (ex_bin (c := .bool false) rfl rfl rfl (eg36 _ _ _ _ _ _) (eq36 23 15 _)) ?_
  simp only [Act.put, List.setIfInBounds_toArray, List.set_cons_zero, List.set_cons_succ]
  refine st_to (some 55) rfl rfl (ex_asg (v := .bool false) rfl rfl) ?_
  simp only [Act.put, List.setIfInBounds_toArray, List.set_cons_zero, List.set_cons_succ]
  refine st_end ?_
  refine wp_cond_false rfl ?_
  refine wp_seq (wp_region_lit ?_)
  refine st_to (some 62) rfl rfl (ex_bin (c := .bool false) rfl rfl rfl (eg36 _ _ _ _ _ _) (eq36 23 17 _)) ?_
  simp only [Act.put, List.setIfInBounds_toArray, List.set_cons_zero, List.set_cons_succ]
  refine st_to (some 61) rfl rfl (ex_asg (v := .bool false) rfl rfl) ?_
  simp only [Act.put, List.setIfInBounds_toArray, List.set_cons_zero, List.set_cons_succ]
  refine st_end ?_
  refine wp_cond_false rfl ?_
  refine wp_seq (wp_region_lit ?_)
  refine st_to (some 68) rfl rfl (ex_bin (c := .bool false) rfl rfl rfl (eg36 _ _ _ _ _ _) (eq36 23 19 _)) ?_
  simp only [Act.put, List.setIfInBounds_toArray, List.set_cons_zero, List.set_cons_succ]
  refine st_to (some 67) rfl rfl (ex_asg (v := .bool false) rfl rfl) ?_
  simp only [Act.put, List.setIfInBounds_toArray, List.set_cons_zero, List.set_cons_succ]
  refine st_end ?_
  refine wp_cond_false rfl ?_
  refine wp_seq (wp_region_lit ?_)
  refine st_to (some 72) rfl rfl (ex_bin (c := .bool false) rfl rfl rfl (eg36 _ _ _ _ _ _) (eq36 23 21 _)) ?_
  simp only [Act.put, List.setIfInBounds_toArray, List.set_cons_zero, List.set_cons_succ]
  refine st_to (some 71) rfl rfl (ex_asg (v := .bool false) rfl rfl) ?_
  simp only [Act.put, List.setIfInBounds_toArray, List.set_cons_zero, List.set_cons_succ]
  refine st_end ?_
  refine wp_cond_false rfl ?_
  obtain ⟨E1, E2, E3, E4⟩ := P.end_ (i := 11) (by omega) (f := .lst ao cap L) ff
  have hfit := E1.fits
  have lE := run_loadAt_mid (P := Try.prog) _ w.heap.size 0 25 _ _ E1.range Try.underlying25 rfl (infoLen K hfit)
  have sE := infoSize K hfit
  have oE := oneMsg K (upd F 11 (.lst ao cap L))
  have HP := hide (fun (tm : Array Value) (W2 : World) (v : Value) (h1 : tm.getD 6 undef = .pointer (some ⟨w.heap.size + 1, 0, none⟩)) (h2 : tm.getD 7 undef = v) (h3 : W2.rangeAt (w.heap.size + 1) 0 (mc K (upd F 11 (.lst ao cap L)))) => ret_msg2 Try.results36 tm W2 (w.heap.size + 1) K hfit v h1 h2 h3)
  obtain ⟨Q, hQ⟩ : ∃ Q, mc K (upd F 11 (.lst ao cap L)) = Q := ⟨_, rfl⟩
  rw [hQ] at E2 E3 E4 lE sE oE HP
  have fr : W3.frozen? ⟨w.heap.size, 136, none⟩ = false := P.m.free (i := 11) (by omega)
  obtain ⟨W4, hW4⟩ : ∃ W4, W3.setCells w.heap.size (off 11) (.lst ao cap L : Fld).cells = W4 := ⟨_, rfl⟩
  rw [hW4] at E1 E2 E3 E4 lE
  obtain ⟨xa, xc, xl, hx⟩ := fits_lst (hF 11 (by omega)) rfl
  have q := P.m.lst (i := 11) (by omega) hx
  have hset : W3.setCell ⟨w.heap.size, 136, none⟩ (.slice ao nl cap) = W4 := by rw [← hW4, ← hnl]; rfl
  refine wp_seq (wp_region_lit ?_)
  refine st_to (some 19) rfl rfl (ex_mv (v := .slice ao nl cap) rfl rfl) ?_
  simp only [Act.put, List.setIfInBounds_toArray, List.set_cons_zero, List.set_cons_succ]
  refine st_to (some 20) rfl rfl (ex_fld rfl rfl (fa12 _ _)) ?_
  simp only [Act.put, List.setIfInBounds_toArray, List.set_cons_zero, List.set_cons_succ]
  refine st_sk rfl rfl (ex_sto23 rfl rfl rfl q fr) ?_
  rw [hset]
  refine st_end ?_
  refine wp_seq (wp_region_lit ?_)
  refine st_to (some 21) rfl rfl (ex_load rfl rfl lE) ?_
  simp only [Act.put, List.setIfInBounds_toArray, List.set_cons_zero, List.set_cons_succ]
  refine st_store (ty := 25) (x := .tmp 6) (y := .tmp 21) (b := w.heap.size + 1) (p := 0) (cells := Q.toArray) rfl rfl rfl rfl rfl E2 sE oE ?_
  refine st_to (some 7) rfl rfl (ex_asg (v := .bool true) rfl rfl) ?_
  simp only [Act.put, List.setIfInBounds_toArray, List.set_cons_zero, List.set_cons_succ]
  refine st_end ?_
  refine wp_ret ?_
  refine blk_ret ?_
  refine bodyPost_ret (HP.out _ _ (.bool true) rfl rfl E3) rfl ⟨by rw [hfw, hQ, how], E4⟩
theorem with_any (i : Nat) (hi : i < 12) (K : Int) (F : Nat → Fld) (hF : Fits F) (ao : Option Addr) (cap : Nat) (L : List Int) (w : World) (hI : IsB w ao cap L) (hL : Bytes L) (hn : L.length ≤ 9223372036854775807) :
    Calls Try.prog 36 #[.agg (mc K F).toArray, .int .u64 (2 * (i : Int) + 1), .slice ao L.length cap] w (WithP i K F ao cap L w) := by
  match i, hi with
  | 0, _ => exact with0 K F hF ao cap L w hI hL hn
  | 1, _ => exact with1 K F hF ao cap L w hI hL hn
  | 2, _ => exact with2 K F hF ao cap L w hI hL hn
  | 3, _ => exact with3 K F hF ao cap L w hI hL hn
  | 4, _ => exact with4 K F hF ao cap L w hI hL hn
  | 5, _ => exact with5 K F hF ao cap L w hI hL hn
  | 6, _ => exact with6 K F hF ao cap L w hI hL hn
  | 7, _ => exact with7 K F hF ao cap L w hI hL hn
  | 8, _ => exact with8 K F hF ao cap L w hI hL hn
  | 9, _ => exact with9 K F hF ao cap L w hI hL hn
  | 10, _ => exact with10 K F hF ao cap L w hI hL hn
  | 11, _ => exact with11 K F hF ao cap L w hI hL hn
end Go.Proofs.Ytcbadmkgbaffpaa

/- What the document's Decode comes to, as plain numbers. -/
namespace Go.Proofs.Ytcbadmkgbaffpaa
open Go.RowKit
set_option linter.unusedVariables false

theorem rdNum_nonneg {L : List Int} (hL : Bytes L) {n : Int} (h : rdNum L = some n) : 0 ≤ n ∧ n ≤ 9223372036854775807 := by
  unfold rdNum at h
  split at h
  · rename_i hc
    cases h
    have hb := val_bd (fun k => L.getD k 0) L.length (fun j hj => by
      have : L.getD j 0 ∈ L := by rw [List.getD_eq_getElem?_getD, List.getElem?_eq_getElem hj]; exact List.getElem_mem hj
      exact hL _ this)
    exact ⟨hb.1, hc.2.2⟩
  · cases h
theorem rdF_with {i : Nat} {a : Option Addr} {c : Nat} {L : List Int} (hL : Bytes L) : rdF i L = if withOk i L = true then some (withF i a c L).plain else none := by
  unfold rdF withOk withF
  rcases form_cases i with h | h | h
  · rw [if_pos h, if_pos h, if_pos h]
    cases hr : rdNum L with
    | none =>
      have : rdNumI L = -1 := by unfold rdNumI; rw [hr]
      rw [this]
      rfl
    | some n =>
      have e : rdNumI L = n := by unfold rdNumI; rw [hr]
      have hn := (rdNum_nonneg hL hr).1
      rw [e, if_pos (decide_eq_true hn)]
      rfl
  · have n0 : ¬ form i = 0 := by omega
    simp only [if_neg n0, if_pos h]
    by_cases hl : L.length = 32
    · rw [if_pos hl, if_pos (decide_eq_true hl)]
      unfold hashL
      rw [if_pos hl]
      rfl
    · rw [if_neg hl, if_neg (by rw [decide_eq_false hl]; simp)]
  · have n0 : ¬ form i = 0 := by omega
    have n1 : ¬ form i = 1 := by omega
    simp only [if_neg n0, if_neg n1]
    rfl
theorem withF_num {i : Nat} {a : Option Addr} {c : Nat} {L : List Int} (hL : Bytes L) (n : Int) (h : withF i a c L = .num n) : n ≤ 9223372036854775807 := by
  unfold withF at h
  split at h
  · cases h
    unfold rdNumI
    split
    · rename_i m hm; exact (rdNum_nonneg hL hm).2
    · omega
  · split at h <;> cases h
theorem good_with {w : World} {i : Nat} {a : Option Addr} {c : Nat} {L : List Int} (hI : IsB w a c L) (hL : Bytes L) (hl : L.length ≤ 140737488351232) : GoodF w (withF i a c L) := by
  unfold withF
  split
  · trivial
  · split
    · intro x hx
      unfold hashL at hx
      split at hx
      · exact hL x hx
      · rw [List.eq_of_mem_replicate hx]; omega
    · exact ⟨hI, hl, hL⟩
/-- the fields that were set so far: those of the first j -/
def OutI (K : Int) (A : List (Int × List Int)) (j : Nat) (G : Nat → Fld) : Prop :=
  (∀ i, i < 12 → i ∈ (fl K).take j → fldA A i = some (G i).plain) ∧ (∀ i, i < 12 → i ∉ (fl K).take j → G i = ZF i)
theorem OutI.zero (K : Int) (A : List (Int × List Int)) : OutI K A 0 ZF := ⟨fun i _ h => by simp at h, fun i _ _ => rfl⟩
theorem OutI.step {K : Int} {A : List (Int × List Int)} {j i : Nat} {G : Nat → Fld} {a : Option Addr} {c : Nat} {L : List Int} (h : OutI K A j G) (hi : (fl K)[j]? = some i) (hl : look A i = some L) (hL : Bytes L) (hok : withOk i L = true) : OutI K A (j + 1) (upd G i (withF i a c L)) := by
  have ht : (fl K).take (j + 1) = (fl K).take j ++ [i] := by rw [List.take_add_one, hi]; rfl
  rw [OutI, ht]
  refine ⟨fun i' hi' hm => ?_, fun i' hi' hm => ?_⟩
  · by_cases e : i' = i
    · subst e
      rw [upd_same]
      unfold fldA
      rw [hl]
      show rdF i' L = _
      rw [rdF_with (a := a) (c := c) hL, if_pos hok]
    · rw [upd_other _ _ _ _ e]
      refine h.1 i' hi' ?_
      rcases List.mem_append.1 hm with hm | hm
      · exact hm
      · exact absurd (List.mem_singleton.1 hm) e
  · have hne : i' ≠ i := fun e => hm (List.mem_append_right _ (by simp [e]))
    rw [upd_other _ _ _ _ hne]
    exact h.2 i' hi' (fun hx => hm (List.mem_append_left _ hx))
theorem fld_none {A : List (Int × List Int)} {i : Nat} (h : look A i = none) : fldA A i = none := by unfold fldA; rw [h]; rfl
theorem fld_bad {A : List (Int × List Int)} {i : Nat} {L : List Int} (h : look A i = some L) (hL : Bytes L) (hok : withOk i L = false) : fldA A i = none := by
  unfold fldA
  rw [h]
  show rdF i L = none
  rw [rdF_with (a := none) (c := 0) hL, if_neg (by rw [hok]; simp)]
theorem not_good {zs : List Int} {i : Nat} (hi : i ∈ fl (kindOf zs)) (h : fldA (recsOf zs).2 i = none) : ¬ decGood zs := fun hg => by
  have := hg.2.2.1 i hi
  rw [h] at this
  cases this
theorem says_rej {zs : List Int} (h : ¬ decGood zs) : Says zs 0 ZF 10 := .inl ⟨rfl, rfl, rfl, h⟩
theorem out_dec {zs : List Int} {n : Nat} {G : Nat → Fld} (h : OutI (kindOf zs) (recsOf zs).2 n G) (hn : (fl (kindOf zs)).length = n) (i : Nat) (hi : i < 12) : decF zs i = (G i).plain := by
  have ht : (fl (kindOf zs)).take n = fl (kindOf zs) := List.take_of_length_le (by omega)
  unfold decF
  by_cases hm : i ∈ fl (kindOf zs)
  · rw [if_pos hm, h.1 i hi (by rw [ht]; exact hm)]; rfl
  · rw [if_neg hm, h.2 i hi (by rw [ht]; exact hm)]
theorem out_says {zs : List Int} {n : Nat} {G : Nat → Fld} (h : OutI (kindOf zs) (recsOf zs).2 n G) (hn : (fl (kindOf zs)).length = n) (h2 : 2 ≤ zs.length) (h0 : (recsOf zs).1 = 0) :
    (mayB (kindOf zs) G = true → Says zs (kindOf zs) G 0) ∧ (mayB (kindOf zs) G = false → ¬ decGood zs) := by
  have hd := out_dec h hn
  have hm : mayP (kindOf zs) (decF zs) = mayB (kindOf zs) G := by rw [mayB_plain]; exact mayP_congr hd
  have ht : (fl (kindOf zs)).take n = fl (kindOf zs) := List.take_of_length_le (by omega)
  refine ⟨fun hb => .inr ⟨rfl, ⟨h2, h0, fun i hi => ?_, by rw [hm]; exact hb⟩, rfl, fun i hi => (hd i hi).symm⟩, fun hb hg => ?_⟩
  · rw [h.1 i (fl_lt _ i hi) (by rw [ht]; exact hi)]; rfl
  · have := hg.2.2.2
    rw [hm, hb] at this
    cases this
/-- the records of bytes that are a stream -/
theorem recs_good {zs : List Int} (hz : Bytes zs) (h0 : (recsOf zs).1 = 0) : Ris (-1) (recsOf zs).2 ∧ (recsOf zs).2.length ≤ 64 ∧ ∀ r ∈ (recsOf zs).2, Bytes r.2 ∧ r.2.length ≤ 65536 := by
  unfold recsOf decT at *
  by_cases hl : 65536 < (zs.drop 2).length
  · rw [if_pos hl] at h0; cases h0
  · rw [if_neg hl] at h0 ⊢
    obtain ⟨A', hA'⟩ : ∃ A', dec kn ((zs.drop 2).length + 1) (zs.drop 2) [] = (0, A') := ⟨_, Prod.ext h0 rfl⟩
    rw [hA']
    obtain ⟨A2, e1, _, e3, e4, e5⟩ := dec_ok kn _ _ _ _ (Bytes.drop hz 2) (Nat.lt_succ_self _) hA'
    rw [List.nil_append] at e1
    subst e1
    exact ⟨e4, e3 (by simp), fun r hr => ⟨(e5 r hr).2.2.2, by have := (e5 r hr).2.2.1; omega⟩⟩
theorem look_take_next {A : List (Int × List Int)} {k i : Nat} {X : Int} {L : List Int} (hk : A[k]? = some (X, L)) : look (A.take (k + 1)) i = (look (A.take k) i).or (if X = 2 * (i : Int) + 1 then some L else none) := by
  have ht : A.take (k + 1) = A.take k ++ [(X, L)] := by rw [List.take_add_one, hk]; rfl
  unfold look
  rw [ht, List.find?_append]
  cases h : List.find? (fun r => r.1 == 2 * (i : Int) + 1) (A.take k) with
  | some r => rfl
  | none =>
    by_cases e : X = 2 * (i : Int) + 1
    · simp [e]
    · simp [e]
/-- a type comes but once -/
theorem look_once {A : List (Int × List Int)} (hr : Ris (-1) A) {k i : Nat} {L : List Int} (hk : A[k]? = some (2 * (i : Int) + 1, L)) : look (A.take k) i = none := by
  cases h : look (A.take k) i with
  | none => rfl
  | some L' =>
    have hm := look_mem h
    obtain ⟨n, hn⟩ := List.getElem?_of_mem hm
    have hn' : n < (A.take k).length := (List.getElem?_eq_some_iff.1 hn).1
    rw [List.length_take] at hn'
    rw [List.getElem?_take_of_lt (by omega)] at hn
    have := ris_lt hr (k - n - 1) n _ _ hn (by rw [show n + (k - n - 1) + 1 = k by omega]; exact hk)
    exact absurd this (by show ¬ (2 * (i : Int) + 1 < 2 * (i : Int) + 1); omega)
end Go.Proofs.Ytcbadmkgbaffpaa

/- The contract of the document's Decode over this seat's translation. -/
namespace Go.Proofs.Ytcbadmkgbaffpaa
open Go.RowKit
set_option linter.unusedVariables false
set_option linter.unusedSimpArgs false

theorem cvt53 {z : Int} (h0 : 0 ≤ z) (h1 : z ≤ 255) (W : World) : (convert 5 3 (.int .u8 z)).run Try.prog W = .ok (.int .i64 z) W := by
  go_simp
  exact IntWalk.i64_in _ ⟨by omega, by omega⟩
theorem mul3k {x : Int} (h0 : 0 ≤ x) (h1 : x ≤ 255) (W : World) : (binOp .mul 3 (.int .i64 x) (.int .i64 256)).run Try.prog W = .ok (.int .i64 (x * 256)) W := by
  go_simp
  exact IntWalk.i64_in _ ⟨by omega, by omega⟩
theorem add3' {x y : Int} (h0 : -9223372036854775808 ≤ x + y) (h1 : x + y ≤ 9223372036854775807) (W : World) : (binOp .add 3 (.int .i64 x) (.int .i64 y)).run Try.prog W = .ok (.int .i64 (x + y)) W := by
  go_simp
  exact IntWalk.i64_in _ ⟨h0, h1⟩
theorem ex_sl2 {op : Oper} {a : Act} {W : World} {x : Operand} {b o n c : Nat} (ho : op.op = .slice 23 x (some (.const (.int .i64 2))) none none) (hx : a.eval x = .slice (some ⟨b, o, none⟩) n c) (hn : 2 ≤ n) (hc : n ≤ c) : (execOp a.eval op).run Try.prog W = .ok (.value (.slice (some ⟨b, if c = 2 then o else o + 2, none⟩) (n - 2) (c - 2))) W := by
  have h1 : (2 : Int) ≤ (n : Int) := by omega
  have h2 : (n : Int) ≤ (c : Int) := by omega
  unfold execOp
  simp only [ho, hx, Option.map]
  by_cases e : c = 2
  · subst e
    go_simp
  · rw [if_neg e]
    go_simp
theorem ah_store {ops : Array Oper} {o : Oper} {a : Act} {w : World} {Q : Exit → Act → World → Prop} {md : Region.Mode} {fuel : Nat} {L : Array Bool} {i : Nat} {S : World → Prop} (hi : ops[i]? = some o) (hd : o.dst = none) (hr : Region.ready md ops L = [i]) (hw : Region.wanted o (yielded ops a.tmps) = true) {ty : TypeId} {x y : Operand} (ho : o.op = .store ty x y) {b p : Nat} {cells : Array Value} (hx : a.eval x = .pointer (some ⟨b, p, none⟩)) (hy : a.eval y = .agg cells)
    (ht : w.there b p cells.size) (hs : (Try.prog.info? ty).map (·.size) = some cells.size) (h1 : cells.all (·.oneCell') = true) (hS : S (w.setCells b p cells.toList)) (h : wpAnyH Try.prog md ops Q S fuel (L.setIfInBounds i true) a (w.setCells b p cells.toList)) : wpAnyH Try.prog md ops Q S (fuel + 1) L a w :=
  ah_wp hi hr hw fun K hK => wp_store_mid ty x y ho b p cells hx hy ht hs h1 (hK _ _ hS (by rw [hd]; exact h))
theorem cfR1Decode (W : World) (vs : Array Value) : (callFunc 35 vs).run Try.prog W = .ok (.enter 35 vs) W := by go_simp
theorem own_geJ {w : World} {B n c : Nat} {a : Option Addr} {L : List Int} (h : w.ownsRow B 5 1 (.slice a n c) n (U8 L)) : ∀ x, a = some x → B ≤ x.block := fun x hx => by
  subst hx
  rcases h.2 with ⟨e, _⟩ | ⟨g', cap, cur, e, hb, hh, r⟩
  · cases e
  · cases e; exact hb
/-- the blocks of the records are as they were -/
def Kp (W4 W6 W : World) : Prop := ∀ k, W4.heap.size ≤ k → k < W6.heap.size → W.heap[k]? = W6.heap[k]?
theorem kp_of {W4 W6 W : World} {b4 : Nat} (h : W6.grownBy W (some b4)) (hlt : b4 < W4.heap.size) : Kp W4 W6 W := fun k h1 h2 => h.block k h2 (by intro e; have := Option.some.inj e; omega)
theorem kp_set {W4 W6 W : World} {b : Nat} (h : Kp W4 W6 W) (hb : b < W4.heap.size) (o : Nat) (vs : List Value) : Kp W4 W6 (W.setCells b o vs) := fun k h1 h2 => by
  have h3 := h k h1 h2
  have h4 : k < W.heap.size := by
    have : W.heap[k]? = some W6.heap[k] := by rw [h3, Array.getElem?_eq_getElem h2]
    exact (Array.getElem?_eq_some_iff.1 this).1
  rw [(grown_setCells b vs o W).block k h4 (by intro e; have := Option.some.inj e; omega), h3]
def InI (W4 W6 : World) (A : List (Int × List Int)) (i : Nat) (G : Nat → Fld) (k : Nat) (ok : Bool) (G' : Nat → Fld) : Prop :=
  (look (A.take k) i = none ∧ ok = false ∧ G' = G) ∨ ∃ L a c, look (A.take k) i = some L ∧ ok = withOk i L ∧ G' = upd G i (withF i a c L) ∧ Bytes L ∧ L.length ≤ 65536 ∧ (∀ W, Kp W4 W6 W → IsB W a c L)
theorem grown_drew {a b : World} {r : Option Nat} (h : a.grownBy b r) : a.grownBy b.drew r := ⟨h.os, h.tape, h.output, h.size, h.block⟩
theorem grown_belowJ {a b c : World} {r : Option Nat} (h : a.grownBy b r) (hb : Below b.heap.size b c) : a.grownBy c r := grown_trans h ⟨hb.os, hb.tape, hb.output, hb.size, fun k hk _ => hb.block k hk⟩
theorem ex_index40 {op : Oper} {a : Act} {W : World} {x y : Operand} (ho : op.op = .indexAddr 40 x y) {g n c k : Nat} (hx : a.eval x = .slice (some ⟨g, 0, none⟩) n c) (hy : a.eval y = .int .i64 k) (hk : k < n) : (execOp a.eval op).run Try.prog W = .ok (.value (.pointer (some ⟨g, k * 2, none⟩))) W := by
  have h1 : (k : Int) < (n : Int) := by omega
  unfold execOp
  simp only [ho, hx, hy]
  go_simp
theorem ex_fldT {op : Oper} {a : Act} {W : World} {x : Operand} {t i : Nat} (ho : op.op = .fieldAddr t x i) {p v : Value} (hx : a.eval x = p) (hf : (Instr.fieldAt t p i).run Try.prog W = .ok v W) : (execOp a.eval op).run Try.prog W = .ok (.value v) W := by
  unfold execOp
  simp only [ho, hx, Sem.run_bind, Sem.run_pure, hf, Result.andThen_ok]
theorem fr0 (b o : Nat) (W : World) : (Instr.fieldAt 39 (.pointer (some ⟨b, o, none⟩)) 0).run Try.prog W = .ok (.pointer (some ⟨b, o, none⟩)) W := by go_simp
theorem fr1 (b o : Nat) (W : World) : (Instr.fieldAt 39 (.pointer (some ⟨b, o, none⟩)) 1).run Try.prog W = .ok (.pointer (some ⟨b, o + 1, none⟩)) W := by go_simp
theorem eq36F {x y : Int} (h : ¬ x = y) (W : World) : (binOp .eql 36 (.int .u64 x) (.int .u64 y)).run Try.prog W = .ok (.bool false) W := by rw [eq36]; simp [h]
theorem eq36T (x : Int) (W : World) : (binOp .eql 36 (.int .u64 x) (.int .u64 x)).run Try.prog W = .ok (.bool true) W := by rw [eq36]; simp
theorem rejZ {w W : World} (M : MsgAt W w.heap.size 0 ZF) (B : Below w.heap.size w W) : W.there w.heap.size 0 (mc 0 ZF).toArray.size ∧ (W.setCells w.heap.size 0 (mc 0 ZF).toArray.toList).rangeAt w.heap.size 0 (mc 0 ZF) ∧ Below w.heap.size w (W.setCells w.heap.size 0 (mc 0 ZF).toArray.toList) :=
  ⟨by rw [sizeMsg 0 ZFits]; exact M.there, World.rangeAt_setCells_same _ _ _ _ (by rw [mc_len 0 ZFits]; exact M.there), B.grown (grown_setCells _ _ _ _) B.size (fun k hk => by cases hk; exact Nat.le_refl _)⟩

set_option maxHeartbeats 16000000 in
theorem rdecode6_any (ao : Option Addr) (cap : Nat) (zs : List Int) (w : World) (hI : IsB w ao cap zs) (hcap : zs.length ≤ cap) (hc : cap ≤ 9223372036854775807) (hz : Bytes zs) :
    Calls Try.prog 18 #[.slice ao zs.length cap] w (DecPost zs w) := by
  have HAL := hide (fun (a : Act) (W : World) (o : Oper) (ho : o.op = .alloc 25) => ex_alloc25 (a := a) (W := W) ho)
  have HB0 := hide (fun (a : Act) (W : World) (o : Oper) (ho : o.op = .build 25 #[]) => ex_build0 (a := a) (W := W) ho)
  have HRJ := hide (fun (W : World) (m : MsgAt W w.heap.size 0 ZF) (B : Below w.heap.size w W) => rejZ m B)
  have HSZ := hide (infoSize 0 ZFits)
  have HOZ := hide (oneMsg 0 ZF)
  have HRT := hide (fun (tm : Array Value) (W2 : World) (h1 : tm.getD 2 undef = .pointer (some ⟨w.heap.size, 0, none⟩)) (h2 : tm.getD 3 undef = .int .i64 10) (h3 : W2.rangeAt w.heap.size 0 (mc 0 ZF)) => ret_msg2 Try.results18 tm W2 w.heap.size 0 ZFits (.int .i64 10) h1 h2 h3)
  have HPO := hide (fun (W2 : World) (hn : ¬ decGood zs) (B : Below w.heap.size w W2) => show DecPost zs w (.returned (.tuple #[.agg (mc 0 ZF).toArray, .int .i64 10])) W2 from ⟨0, ZF, 10, rfl, ZFits, hide (fun i hi => GoodF.zero W2 i), says_rej hn, B⟩)
  obtain ⟨W0, hW0⟩ : ∃ W0, w.alloc (.cells (mc 0 ZF).toArray 25) = W0 := ⟨_, rfl⟩
  have M2 : MsgAt W0 w.heap.size 0 ZF := by rw [← hW0]; exact MsgAt.new w 0 ZFits
  have B0 : Below w.heap.size w W0 := by rw [← hW0]; exact (Below.refl _ _).alloc (Nat.le_refl _) _
  obtain ⟨Z, hZ⟩ : ∃ Z, mc 0 ZF = Z := ⟨_, rfl⟩
  have HZ := hide hZ
  rw [hZ] at HAL HB0 HRJ HSZ HOZ HRT HPO hW0
  clear hZ
  obtain ⟨n, hn⟩ : ∃ n, zs.length = n := ⟨_, rfl⟩
  have HNL := hide hn
  rw [hn] at hcap ⊢
  clear hn
  go_enter Try.func18, Try.ntmps18
  refine wp_seq (wp_region_lit ?_)
  refine st_to (some 2) rfl rfl (HAL.out _ _ _ rfl) ?_
  simp only [Act.put, List.setIfInBounds_toArray, List.set_cons_zero, List.set_cons_succ]
  rw [hW0]
  refine st_to (some 3) rfl rfl (ex_asg (v := .int .i64 0) rfl rfl) ?_
  simp only [Act.put, List.setIfInBounds_toArray, List.set_cons_zero, List.set_cons_succ]
  refine st_end ?_
  refine wp_seq ?_
  refine wp_seq (wp_region_lit ?_)
  refine st_to (some 11) rfl rfl (ex_mv (v := .slice ao n cap) rfl rfl) ?_
  simp only [Act.put, List.setIfInBounds_toArray, List.set_cons_zero, List.set_cons_succ]
  refine st_to (some 12) rfl rfl (ex_len rfl rfl) ?_
  simp only [Act.put, List.setIfInBounds_toArray, List.set_cons_zero, List.set_cons_succ]
  by_cases h2 : (n : Int) < 2
  · skip
    refine st_to (some 13) rfl rfl (ex_bin (c := .bool true) rfl rfl rfl (eg3' _ _ _ _ _ _) (lss3T h2 _)) ?_
    simp only [Act.put, List.setIfInBounds_toArray, List.set_cons_zero, List.set_cons_succ]
    refine st_end ?_
    refine wp_cond_true rfl ?_
    refine wp_seq (wp_region_lit ?_)
    obtain ⟨rT, rR, rB⟩ := HRJ.out W0 M2 B0
    refine st_to (some 14) rfl rfl (HB0.out _ _ _ rfl) ?_
    simp only [Act.put, List.setIfInBounds_toArray, List.set_cons_zero, List.set_cons_succ]
    refine st_store (ty := 25) (x := .tmp 2) (y := .tmp 14) (b := w.heap.size) (p := 0) (cells := Z.toArray) rfl rfl rfl rfl rfl rT HSZ.out HOZ.out ?_
    refine st_to (some 3) rfl rfl (ex_asg (v := .int .i64 10) rfl rfl) ?_
    simp only [Act.put, List.setIfInBounds_toArray, List.set_cons_zero, List.set_cons_succ]
    refine st_end ?_
    refine wp_ret ?_
    refine ret_out ?_
    refine bodyPost_ret (HRT.out _ _ rfl rfl rR) rfl (HPO.out _ (fun hg => by have := hg.1; rw [HNL.out] at this; omega) rB)
  refine st_to (some 13) rfl rfl (ex_bin (c := .bool false) rfl rfl rfl (eg3' _ _ _ _ _ _) (lss3F h2 _)) ?_
  simp only [Act.put, List.setIfInBounds_toArray, List.set_cons_zero, List.set_cons_succ]
  refine st_end ?_
  refine wp_cond_false rfl ?_
  refine wp_skip ?_
  have hn2 : 2 ≤ n := by omega
  have I0 := hI.below B0
  obtain ⟨b, off, rfl, hblt, hcell⟩ := I0.at (by rw [HNL.out]; omega)
  have hb0 : b < w.heap.size := isB_lt hI (by intro e; have := HNL.out; rw [e] at this; simp at this; omega)
  obtain ⟨wd, hwd⟩ : ∃ wd, W0.drew = wd := ⟨_, rfl⟩
  have Bd : Below w.heap.size w wd := by rw [← hwd]; exact below_drew B0
  have M2d : MsgAt wd w.heap.size 0 ZF := by rw [← hwd]; exact M2.drew
  have byte : ∀ k, k < zs.length → 0 ≤ zs.getD k 0 ∧ zs.getD k 0 ≤ 255 := fun k hk => hz _ (by rw [List.getD_eq_getElem?_getD, List.getElem?_eq_getElem hk]; exact List.getElem_mem hk)
  have y0 := byte 0 (by rw [HNL.out]; omega)
  have y1 := byte 1 (by rw [HNL.out]; omega)
  have e0 : ∀ W, Below w.heap.size w W → W.cell? ⟨b, off + 0, none⟩ = some (.int .u8 (zs.getD 0 0)) := fun W h => by
    obtain ⟨b', o', e, _, hh⟩ := (hI.below h).at (by rw [HNL.out]; omega)
    cases e
    exact hh 0 (by rw [HNL.out]; omega)
  have e1 : ∀ W, Below w.heap.size w W → W.cell? ⟨b, off + 1, none⟩ = some (.int .u8 (zs.getD 1 0)) := fun W h => by
    obtain ⟨b', o', e, _, hh⟩ := (hI.below h).at (by rw [HNL.out]; omega)
    cases e
    exact hh 1 (by rw [HNL.out]; omega)
  obtain ⟨K, hK⟩ : ∃ K, kindOf zs = K := ⟨_, rfl⟩
  have hKe : zs.getD 0 0 * 256 + zs.getD 1 0 = K := hK
  obtain ⟨z0, hz0⟩ : ∃ z0, zs.getD 0 0 = z0 := ⟨_, rfl⟩
  obtain ⟨z1, hz1⟩ : ∃ z1, zs.getD 1 0 = z1 := ⟨_, rfl⟩
  rw [hz0] at e0 y0 hKe
  rw [hz1] at e1 y1 hKe
  have HBD := built_kind K
  obtain ⟨T4, M4, B4⟩ := lives_msg (w := wd) (K := K) rfl ZFits
  have HS4 := infoSize K (F := ZF) ZFits
  have HO4 := oneMsg K ZF
  obtain ⟨ZK, hZK⟩ : ∃ ZK, (mc K ZF).toArray = ZK := ⟨_, rfl⟩
  rw [hZK] at HBD T4 M4 B4 HS4 HO4
  rw [HZ.out] at T4 M4 B4
  obtain ⟨W4, hW4⟩ : ∃ W4, (wd.alloc (.cells Z.toArray 25)).setCells wd.heap.size 0 ZK.toList = W4 := ⟨_, rfl⟩
  have hS4 : ∀ W, Below wd.heap.size wd W → Below w.heap.size w W := fun W h => Bd.trans (h.mono Bd.size)
  refine wp_seq ?_
  refine wp_region_held (S := fun W => Below wd.heap.size wd W) (by kernel_rfl) ?_
  show wpAnyH _ _ _ _ _ _ _ _ W0.drew
  rw [hwd]
  have S0 : Below wd.heap.size wd wd := Below.refl _ _
  refine ah_take (i := 0) (some 15) rfl rfl (by kernel_rfl) (by kernel_rfl) (by kernel_rfl) rfl (fun W _ => ex_mv (v := .slice (some ⟨b, off, none⟩) n cap) rfl rfl) S0 (fun _ _ _ h => h) ?_
  simp only [Act.put, List.setIfInBounds_toArray, List.set_cons_zero, List.set_cons_succ]
  refine ah_take (i := 1) (some 16) rfl rfl (by kernel_rfl) (by kernel_rfl) (by kernel_rfl) rfl (fun W _ => ex_index23 (k := 0) rfl rfl rfl (by omega)) S0 (fun _ _ _ h => h) ?_
  simp only [Act.put, List.setIfInBounds_toArray, List.set_cons_zero, List.set_cons_succ]
  refine ah_take (i := 2) (some 17) rfl rfl (by kernel_rfl) (by kernel_rfl) (by kernel_rfl) rfl (fun W h => ex_load rfl rfl (ld5 (e0 W (hS4 W h)))) S0 (fun _ _ _ h => h) ?_
  simp only [Act.put, List.setIfInBounds_toArray, List.set_cons_zero, List.set_cons_succ]
  refine ah_take (i := 3) (some 18) rfl rfl (by kernel_rfl) (by kernel_rfl) (by kernel_rfl) rfl (fun W _ => ex_conv rfl rfl (cvt53 y0.1 y0.2 W)) S0 (fun _ _ _ h => h) ?_
  simp only [Act.put, List.setIfInBounds_toArray, List.set_cons_zero, List.set_cons_succ]
  refine ah_take (i := 4) (some 19) rfl rfl (by kernel_rfl) (by kernel_rfl) (by kernel_rfl) rfl (fun W _ => ex_bin (c := .int .i64 (z0 * 256)) rfl rfl rfl (eg3' _ _ _ _ _ _) (mul3k y0.1 y0.2 W)) S0 (fun _ _ _ h => h) ?_
  simp only [Act.put, List.setIfInBounds_toArray, List.set_cons_zero, List.set_cons_succ]
  refine ah_take (i := 5) (some 20) rfl rfl (by kernel_rfl) (by kernel_rfl) (by kernel_rfl) rfl (fun W _ => ex_mv (v := .slice (some ⟨b, off, none⟩) n cap) rfl rfl) S0 (fun _ _ _ h => h) ?_
  simp only [Act.put, List.setIfInBounds_toArray, List.set_cons_zero, List.set_cons_succ]
  refine ah_take (i := 6) (some 21) rfl rfl (by kernel_rfl) (by kernel_rfl) (by kernel_rfl) rfl (fun W _ => ex_index23 (k := 1) rfl rfl rfl (by omega)) S0 (fun _ _ _ h => h) ?_
  simp only [Act.put, List.setIfInBounds_toArray, List.set_cons_zero, List.set_cons_succ]
  refine ah_take (i := 7) (some 22) rfl rfl (by kernel_rfl) (by kernel_rfl) (by kernel_rfl) rfl (fun W h => ex_load rfl rfl (ld5 (e1 W (hS4 W h)))) S0 (fun _ _ _ h => h) ?_
  simp only [Act.put, List.setIfInBounds_toArray, List.set_cons_zero, List.set_cons_succ]
  refine ah_take (i := 8) (some 23) rfl rfl (by kernel_rfl) (by kernel_rfl) (by kernel_rfl) rfl (fun W _ => ex_conv rfl rfl (cvt53 y1.1 y1.2 W)) S0 (fun _ _ _ h => h) ?_
  simp only [Act.put, List.setIfInBounds_toArray, List.set_cons_zero, List.set_cons_succ]
  refine ah_take (i := 9) (some 24) rfl rfl (by kernel_rfl) (by kernel_rfl) (by kernel_rfl) rfl (fun W _ => ex_bin (c := .int .i64 K) rfl rfl rfl (eg3' _ _ _ _ _ _) (by rw [← hKe]; exact add3' (by omega) (by omega) W)) S0 (fun _ _ _ h => h) ?_
  simp only [Act.put, List.setIfInBounds_toArray, List.set_cons_zero, List.set_cons_succ]
  refine ah_take (i := 10) (some 25) rfl rfl (by kernel_rfl) (by kernel_rfl) (by kernel_rfl) rfl (fun W _ => ex_build1 (t := 25) (i := 0) (x := .tmp 24) (v := .int .i64 K) (u := .agg ZK) rfl rfl (HBD W)) S0 (fun _ _ _ h => h) ?_
  simp only [Act.put, List.setIfInBounds_toArray, List.set_cons_zero, List.set_cons_succ]
  refine ah_to (i := 11) (some 4) rfl rfl (by kernel_rfl) rfl (HAL.out _ _ _ rfl) (S0.alloc S0.size _) ?_
  simp only [Act.put, List.setIfInBounds_toArray, List.set_cons_zero, List.set_cons_succ]
  refine ah_store (i := 12) (ty := 25) (x := .tmp 4) (y := .tmp 25) (b := wd.heap.size) (p := 0) (cells := ZK) rfl rfl (by kernel_rfl) rfl rfl rfl rfl T4 HS4 HO4 B4 ?_
  refine ah_done (by kernel_rfl) ?_
  rw [hW4] at M4 B4 ⊢
  obtain ⟨b4, hb4⟩ : ∃ b4, wd.heap.size = b4 := ⟨_, rfl⟩
  have hb4w : w.heap.size < b4 := by rw [← hb4]; exact M2d.lt
  rw [hb4] at M4 ⊢
  have B4w := Bd.trans (B4.mono Bd.size)
  have M24 := M2d.below B4
  obtain ⟨o2, ho2⟩ : ∃ o2, (if cap = 2 then off else off + 2) = o2 := ⟨_, rfl⟩
  have I4 : IsB W4 (some ⟨b, o2, none⟩) (cap - 2) (zs.drop 2) := by
    by_cases e : cap = 2
    · rw [List.drop_eq_nil_of_le (by rw [HNL.out]; omega)]; exact isB_none _ _
    · rw [← ho2, if_neg e]; exact isB_drop (hI.below B4w) 2
  have HDR := rdecode_any (some ⟨b, o2, none⟩) (cap - 2) (zs.drop 2) W4 I4 (by rw [List.length_drop, HNL.out]; omega) (by omega) (Bytes.drop hz 2) none 0 0 (fun _ => 0) (.inl rfl) (by omega)
  rw [show decT (knows (fun _ => 0) 0) (zs.drop 2) = recsOf zs from rfl, List.length_drop, HNL.out] at HDR
  obtain ⟨E, hE⟩ : ∃ E, (recsOf zs).1 = E := ⟨_, rfl⟩
  rw [hE] at HDR
  show Code.wp _ _ _ _ _
  refine wp_seq (wp_region_lit ?_)
  refine st_to (some 27) rfl rfl (ex_mv (v := .slice (some ⟨b, off, none⟩) n cap) rfl rfl) ?_
  simp only [Act.put, List.setIfInBounds_toArray, List.set_cons_zero, List.set_cons_succ]
  refine st_to (some 28) rfl rfl (ex_sl2 rfl rfl hn2 hcap) ?_
  simp only [Act.put, List.setIfInBounds_toArray, List.set_cons_zero, List.set_cons_succ]
  rw [ho2]
  refine st_call (some 29) rfl rfl HDR (ex_call (f := 35) (vs := [.slice (some ⟨b, o2, none⟩) (n - 2) (cap - 2), .slice none 0 0]) rfl (cfR1Decode _) rfl) ?_
  rintro e W5 ⟨rv, q, rfl, HOW, hpq, HB5⟩
  refine ⟨_, rfl, ?_⟩
  simp only [Act.put, List.setIfInBounds_toArray, List.set_cons_zero, List.set_cons_succ]
  refine st_to (some 26) rfl rfl (ex_mv (v := .tuple #[rv, .int .i64 E]) rfl rfl) ?_
  simp only [Act.put, List.setIfInBounds_toArray, List.set_cons_zero, List.set_cons_succ]
  refine st_to (some 30) rfl rfl (ex_ext (vs := #[rv, .int .i64 E]) (v := rv) rfl rfl rfl) ?_
  simp only [Act.put, List.setIfInBounds_toArray, List.set_cons_zero, List.set_cons_succ]
  refine st_to (some 31) rfl rfl (ex_ext (vs := #[rv, .int .i64 E]) (v := .int .i64 E) rfl rfl rfl) ?_
  simp only [Act.put, List.setIfInBounds_toArray, List.set_cons_zero, List.set_cons_succ]
  refine st_to (some 5) rfl rfl (ex_asg (v := rv) rfl rfl) ?_
  simp only [Act.put, List.setIfInBounds_toArray, List.set_cons_zero, List.set_cons_succ]
  refine st_to (some 6) rfl rfl (ex_asg (v := .int .i64 E) rfl rfl) ?_
  simp only [Act.put, List.setIfInBounds_toArray, List.set_cons_zero, List.set_cons_succ]
  refine st_end ?_
  refine wp_seq (wp_region_lit ?_)
  have M45 := M4.below HB5.out
  have M25 := M24.below HB5.out
  have B5w := B4w.trans (HB5.out.mono B4w.size)
  refine st_to (some 32) rfl rfl (ex_fld rfl rfl (fa0 _ _)) ?_
  simp only [Act.put, List.setIfInBounds_toArray, List.set_cons_zero, List.set_cons_succ]
  refine st_to (some 33) rfl rfl (ex_load rfl rfl (ld3 M45.kind)) ?_
  simp only [Act.put, List.setIfInBounds_toArray, List.set_cons_zero, List.set_cons_succ]
  refine st_call (some 34) rfl rfl (rfields_ex K W5) (ex_call (f := 23) (vs := [.int .i64 K]) rfl (cfRFields _) rfl) ?_
  rintro e W6 ⟨gf, fa, fc, rfl, hv, HF6, hgf, HB6⟩
  refine ⟨_, rfl, ?_⟩
  simp only [Act.put, List.setIfInBounds_toArray, List.set_cons_zero, List.set_cons_succ]
  have M46 := M45.below HB6.out
  have M26 := M25.below HB6.out
  have B6w := B5w.trans (HB6.out.mono B5w.size)
  have HO6 := HOW.out.below HB6.out
  obtain ⟨nf, hnf⟩ : ∃ nf, (fl K).length = nf := ⟨_, rfl⟩
  have HNF := hide hnf
  rw [hnf]
  refine st_to (some 7) rfl rfl (ex_asg (v := .slice fa nf fc) rfl rfl) ?_
  simp only [Act.put, List.setIfInBounds_toArray, List.set_cons_zero, List.set_cons_succ]
  refine st_end ?_
  refine wp_seq ?_
  refine wp_seq (wp_region_lit ?_)
  refine st_to (some 35) rfl rfl (ex_mv (v := .int .i64 E) rfl rfl) ?_
  simp only [Act.put, List.setIfInBounds_toArray, List.set_cons_zero, List.set_cons_succ]
  by_cases hE0 : E = 0
  · subst hE0
    refine st_to (some 36) rfl rfl (ex_bin (c := .bool false) rfl rfl rfl (eg26 _ _ _ _ _ _) (neq26 0 0 _)) ?_
    simp only [Act.put, List.setIfInBounds_toArray, List.set_cons_zero, List.set_cons_succ]
    refine st_to (some 37) rfl rfl (ex_mv (v := .bool false) rfl rfl) ?_
    simp only [Act.put, List.setIfInBounds_toArray, List.set_cons_zero, List.set_cons_succ]
    refine st_to (some 38) rfl rfl (ex_mv (v := .slice fa nf fc) rfl rfl) ?_
    simp only [Act.put, List.setIfInBounds_toArray, List.set_cons_zero, List.set_cons_succ]
    refine st_to (some 39) rfl rfl (ex_len44 rfl rfl) ?_
    simp only [Act.put, List.setIfInBounds_toArray, List.set_cons_zero, List.set_cons_succ]
    by_cases hf0 : nf = 0
    · subst hf0
      refine st_to (some 40) rfl rfl (ex_bin (c := .bool true) rfl rfl rfl (eg3' _ _ _ _ _ _) (eq3 0 0 _)) ?_
      simp only [Act.put, List.setIfInBounds_toArray, List.set_cons_zero, List.set_cons_succ]
      refine st_to (some 41) rfl rfl (ex_pkF (v := .bool true) rfl rfl rfl) ?_
      simp only [Act.put, List.setIfInBounds_toArray, List.set_cons_zero, List.set_cons_succ]
      refine st_end ?_
      refine wp_cond_true rfl ?_
      refine wp_seq (wp_region_lit ?_)
      obtain ⟨rT, rR, rB⟩ := HRJ.out W6 M26 B6w
      refine st_to (some 42) rfl rfl (HB0.out _ _ _ rfl) ?_
      simp only [Act.put, List.setIfInBounds_toArray, List.set_cons_zero, List.set_cons_succ]
      refine st_store (ty := 25) (x := .tmp 2) (y := .tmp 42) (b := w.heap.size) (p := 0) (cells := Z.toArray) rfl rfl rfl rfl rfl rT HSZ.out HOZ.out ?_
      refine st_to (some 3) rfl rfl (ex_asg (v := .int .i64 10) rfl rfl) ?_
      simp only [Act.put, List.setIfInBounds_toArray, List.set_cons_zero, List.set_cons_succ]
      refine st_end ?_
      refine wp_ret ?_
      refine ret_out ?_
      refine bodyPost_ret (HRT.out _ _ rfl rfl rR) rfl (HPO.out _ (fun hg => by have := hg.2.2.2; unfold mayP at this; rw [hK, List.eq_nil_of_length_eq_zero HNF.out] at this; simp at this) rB)
    have hne0 : ((nf : Int) == 0) = false := by simp; omega
    refine st_to (some 40) rfl rfl (ex_bin (c := .bool false) rfl rfl rfl (eg3' _ _ _ _ _ _) (by rw [← hne0]; exact eq3 _ _ _)) ?_
    simp only [Act.put, List.setIfInBounds_toArray, List.set_cons_zero, List.set_cons_succ]
    refine st_to (some 41) rfl rfl (ex_pkF (v := .bool false) rfl rfl rfl) ?_
    simp only [Act.put, List.setIfInBounds_toArray, List.set_cons_zero, List.set_cons_succ]
    refine st_end ?_
    refine wp_cond_false rfl ?_
    refine wp_skip ?_
    have RG := recs_good hz hE
    have hmA : q.length = (recsOf zs).2.length := by rw [← hpq, plain_length]
    obtain ⟨la, lc, hrv⟩ := row_shape HO6.row
    have hlt4 : b4 < W4.heap.size := M4.lt
    have HREC : ∀ k, k < q.length → ∃ g X a c L, la = some ⟨g, 0, none⟩ ∧ (recsOf zs).2[k]? = some (X, L) ∧ (∀ W, W6.grownBy W (some b4) → W.cell? ⟨g, k * 2, none⟩ = some (.int .u64 X) ∧ W.cell? ⟨g, k * 2 + 1, none⟩ = some (.slice a L.length c)) ∧ (∀ W, Kp W4 W6 W → IsB W a c L) ∧ Bytes L ∧ L.length ≤ 65536 := fun k hk => by
      obtain ⟨g, c0, e, R⟩ := row_open HO6.row (fun r hr => by obtain ⟨ao, cp, e, hI, _⟩ := own_isB (HO6.each r hr); cases e; exact hI) (by omega)
      have hgb := HO6.row.lt g (by rw [e]; rfl)
      rw [hrv] at e
      cases e
      have hAk : (recsOf zs).2[k]? = some ((rqAt q k).1, (rqAt q k).2.2.2) := by rw [← hpq]; exact plain_at q k hk
      have hmem := List.mem_of_getElem? hAk
      have hrg := RG.2.2 _ hmem
      have R0 := R.bytes k hk
      refine ⟨g, (rqAt q k).1, (rqAt q k).2.1, (rqAt q k).2.2.1, (rqAt q k).2.2.2, rfl, hAk, fun W hW => ?_, fun W hW => isB_kept (R.bytes k hk) (fun x hx hl => hW x.block (own_geJ (HO6.each _ (rqAt_mem hk)) x hx) (by rw [hx] at R0; exact isB_lt R0 hl)), hrg.1, hrg.2⟩
      have hne : some g ≠ some b4 := by intro e; have := Option.some.inj e; omega
      have hkb : W.heap[g]? = W6.heap[g]? := hW.block g R.lt hne
      have t1 := R.type k hk
      have t2 := R.value k hk
      rw [Nat.zero_add] at t1 t2
      exact ⟨(World.cell?_of_block (a := ⟨g, k * 2, none⟩) hkb).trans t1, (World.cell?_of_block (a := ⟨g, k * 2 + 1, none⟩) hkb).trans t2⟩
    have HFW : ∀ W, W6.grownBy W (some b4) → FlAt W gf (fl K) := fun W hW => HF6.out.kept hW.size (fun hlt => hW.block gf hlt (by intro e; have := Option.some.inj e; have := HB5.out.size; omega))
    have hfl0 : fl K ≠ [] := fun e => hf0 (by rw [← HNF.out, e]; rfl)
    obtain ⟨rfl, hfc⟩ : fa = some ⟨gf, 0, none⟩ ∧ fc = nf := by
      rcases hv with ⟨_, h⟩ | ⟨h, _⟩
      · rw [HNF.out] at h; simpa using h
      · exact absurd (List.eq_nil_of_length_eq_zero h.symm) hfl0
    subst fc
    have znum : ∀ n, ZF 2 = .num n → n ≤ 9223372036854775807 := fun n hn => by
      have : Fld.num 0 = .num n := hn
      cases this
      omega
    have HMW : ∀ W, W6.grownBy W (some b4) → MsgAt W w.heap.size 0 ZF ∧ Below w.heap.size w W := fun W hW => ⟨M26.grown hW (by intro e; have := Option.some.inj e; omega), B6w.grown hW B6w.size (fun k hk => by cases hk; omega)⟩
    obtain ⟨m, hm⟩ : ∃ m, q.length = m := ⟨_, rfl⟩
    have hm64 : m ≤ 64 := by rw [← hm, hmA]; exact RG.2.1
    rw [hm] at hrv HREC hmA
    subst hrv
    obtain ⟨A, hA⟩ : ∃ A, (recsOf zs).2 = A := ⟨_, rfl⟩
    rw [hA] at HREC hmA
    have hRis : Ris (-1) A := by rw [← hA]; exact RG.1
    have hnf6 : nf ≤ 6 := by rw [← HNF.out]; exact fl_len K
    have hWith := fun (i : Nat) (hi : i < 12) (G : Nat → Fld) (fG : Fits G) (a : Option Addr) (c : Nat) (L : List Int) (W : World) (hI : IsB W a c L) (hL : Bytes L) (hl : L.length ≤ 65536) => with_any i hi K G fG a c L W hI hL (by omega)
    have J4 := hide M46
    have JH := hide HREC
    have JF := hide HFW
    have JM := hide HMW
    have JW := hide hWith
    have JR := hide hRis
    have JA := hide hA
    have JmA := hide hmA
    have JE := hide hE
    have JK := hide hK
    have Jz := hide hz
    have Jfl := hide hfl0
    clear HREC HFW HMW hWith hRis hA hmA hE hK hz RG HO6 HOW HF6 M46 M26 B6w M45 M25 B5w HB5 HB6 hpq HDR hv hfl0 I4 M4 M24 B4w B4 M2d Bd M2 B0 I0 hcell e0 e1 hI hS4 S0 T4 HS4 HO4 HBD byte
    refine wp_seq ?_
    refine wp_seq (wp_region_lit ?_)
    refine st_to (some 8) rfl rfl (ex_asg (v := .int .i64 0) rfl rfl) ?_
    simp only [Act.put, List.setIfInBounds_toArray, List.set_cons_zero, List.set_cons_succ]
    refine st_end ?_
    refine wp_block ?_
    go_loopw [8] (fun iv wr => ∃ (j : Nat) (G : Nat → Fld), j ≤ nf ∧ iv = .int .i64 j ∧ Hid (MsgAt wr b4 K G) ∧ Hid (W6.grownBy wr (some b4)) ∧ Hid (OutI K A j G) ∧ Hid (∀ W, Kp W4 W6 W → Good W G) ∧ Hid (∀ n, G 2 = .num n → n ≤ 9223372036854775807)) (fun iv _ => nf - (intOf iv).toNat)
    case atStart => exact ⟨0, ZF, by omega, rfl, J4, World.grownBy.refl _ _, OutI.zero K A, hide (fun W _ i hi => GoodF.zero _ i), hide znum⟩
    case round =>
      obtain ⟨j, G, hj, rfl, HM, HG, HOI, HGo, HNm⟩ := hrel
      by_cases hlt : j < nf
      · obtain ⟨i, hi⟩ : ∃ i, (fl K)[j]? = some i := ⟨_, List.getElem?_eq_getElem (by rw [HNF.out]; exact hlt)⟩
        have HI := hide hi
        have hi12 : i < 12 := fl_lt K i (List.mem_of_getElem? hi)
        have hcj : (j : Int) < (nf : Int) := by omega
        clear hi
        go_wp2_with fail
        go_loopw [9, 10] (fun okv kv wr' => ∃ (k : Nat) (ok : Bool) (G' : Nat → Fld), k ≤ m ∧ kv = .int .i64 k ∧ okv = .bool ok ∧ Hid (MsgAt wr' b4 K G') ∧ Hid (W6.grownBy wr' (some b4)) ∧ Hid (InI W4 W6 A i G k ok G')) (fun _ kv _ => m - (intOf kv).toNat)
        case atStart => exact ⟨0, false, G, by omega, rfl, rfl, HM, HG, hide (.inl ⟨by simp [look], rfl, rfl⟩)⟩
        case round =>
          obtain ⟨k, ok, G', hk, rfl, rfl, HM', HG', HIn⟩ := hrel
          by_cases hlt2 : k < m
          · obtain ⟨g, X, ra, rc, RL, rfl, hAk, hcells, hRI, hRb, hRl⟩ := JH.out k hlt2
            have hck : (k : Int) < (m : Int) := by omega
            have JC := hide hcells
            have JAk := hide hAk
            have JRI := hide hRI
            have JRb := hide hRb
            have JRl := hide hRl
            clear hcells hAk hRb hRl hRI
            go_wp2_with fail
            obtain ⟨wd, hwd⟩ : ∃ wd, wr.drew = wd := ⟨_, rfl⟩
            have Dg : W6.grownBy wd (some b4) := by rw [← hwd]; exact grown_drew HG'.out
            have Dm : MsgAt wd b4 K G' := by rw [← hwd]; exact HM'.out.drew
            obtain ⟨rc0, rc1⟩ := JC.out wd Dg
            have fc0 : wd.cell? ⟨gf, j, none⟩ = some (.int .u64 (2 * (i : Int) + 1)) := (JF.out wd Dg).2 j i HI.out
            by_cases e : X = 2 * (i : Int) + 1
            · subst e
              refine wp_region_held (S := fun W => W = wd) (by kernel_rfl) ?_
              show wpAnyH _ _ _ _ _ _ _ _ wr.drew
              rw [hwd]
              have S0 : wd = wd := rfl
              refine ah_take (i := 0) (some 55) rfl rfl (by kernel_rfl) (by kernel_rfl) (by kernel_rfl) rfl (fun W _ => ex_mv (v := .slice (some ⟨g, 0, none⟩) m lc) rfl rfl) S0 (fun _ _ _ h => h) ?_
              simp only [Act.put, List.setIfInBounds_toArray, List.set_cons_zero, List.set_cons_succ]
              refine ah_take (i := 1) (some 56) rfl rfl (by kernel_rfl) (by kernel_rfl) (by kernel_rfl) rfl (fun W _ => ex_mv (v := .int .i64 k) rfl rfl) S0 (fun _ _ _ h => h) ?_
              simp only [Act.put, List.setIfInBounds_toArray, List.set_cons_zero, List.set_cons_succ]
              refine ah_take (i := 2) (some 57) rfl rfl (by kernel_rfl) (by kernel_rfl) (by kernel_rfl) rfl (fun W _ => ex_index40 (k := k) rfl rfl rfl hlt2) S0 (fun _ _ _ h => h) ?_
              simp only [Act.put, List.setIfInBounds_toArray, List.set_cons_zero, List.set_cons_succ]
              refine ah_take (i := 3) (some 58) rfl rfl (by kernel_rfl) (by kernel_rfl) (by kernel_rfl) rfl (fun W _ => ex_fldT rfl rfl (fr0 _ _ W)) S0 (fun _ _ _ h => h) ?_
              simp only [Act.put, List.setIfInBounds_toArray, List.set_cons_zero, List.set_cons_succ]
              refine ah_take (i := 4) (some 59) rfl rfl (by kernel_rfl) (by kernel_rfl) (by kernel_rfl) rfl (fun W hh => ex_load rfl rfl (ld36 (by rw [hh]; exact rc0))) S0 (fun _ _ _ h => h) ?_
              simp only [Act.put, List.setIfInBounds_toArray, List.set_cons_zero, List.set_cons_succ]
              refine ah_take (i := 5) (some 60) rfl rfl (by kernel_rfl) (by kernel_rfl) (by kernel_rfl) rfl (fun W _ => ex_mv (v := .slice (some ⟨gf, 0, none⟩) nf nf) rfl rfl) S0 (fun _ _ _ h => h) ?_
              simp only [Act.put, List.setIfInBounds_toArray, List.set_cons_zero, List.set_cons_succ]
              refine ah_take (i := 6) (some 61) rfl rfl (by kernel_rfl) (by kernel_rfl) (by kernel_rfl) rfl (fun W _ => ex_mv (v := .int .i64 j) rfl rfl) S0 (fun _ _ _ h => h) ?_
              simp only [Act.put, List.setIfInBounds_toArray, List.set_cons_zero, List.set_cons_succ]
              refine ah_take (i := 7) (some 62) rfl rfl (by kernel_rfl) (by kernel_rfl) (by kernel_rfl) rfl (fun W _ => ex_index44 (k := j) rfl rfl rfl hlt) S0 (fun _ _ _ h => h) ?_
              simp only [Act.put, List.setIfInBounds_toArray, List.set_cons_zero, List.set_cons_succ]
              refine ah_take (i := 8) (some 63) rfl rfl (by kernel_rfl) (by kernel_rfl) (by kernel_rfl) rfl (fun W hh => ex_load rfl rfl (ld36 (by rw [hh]; exact fc0))) S0 (fun _ _ _ h => h) ?_
              simp only [Act.put, List.setIfInBounds_toArray, List.set_cons_zero, List.set_cons_succ]
              refine ah_take (i := 9) (some 64) rfl rfl (by kernel_rfl) (by kernel_rfl) (by kernel_rfl) rfl (fun W _ => ex_bin (c := .bool true) rfl rfl rfl (eg36 _ _ _ _ _ _) (eq36T _ W)) S0 (fun _ _ _ h => h) ?_
              simp only [Act.put, List.setIfInBounds_toArray, List.set_cons_zero, List.set_cons_succ]
              refine ah_done (by kernel_rfl) ?_
              have hnone := look_once JR.out JAk.out
              have hIn : G' = G ∧ ok = false := by
                rcases HIn.out with ⟨_, h1, h2⟩ | ⟨L, a, c, h1, _⟩
                · exact ⟨h2, h1⟩
                · rw [hnone] at h1; cases h1
              obtain ⟨rfl, rfl⟩ := hIn
              have JN := hide hnone
              clear hnone S0 rc0 rc1 fc0
              have Dm' := hide Dm
              have Dg' := hide Dg
              clear Dm Dg
              go_wp2_with fail
              obtain ⟨we, hwe⟩ : ∃ we, wd.drew = we := ⟨_, rfl⟩
              have Eg : W6.grownBy we (some b4) := by rw [← hwe]; exact grown_drew Dg'.out
              have Em : MsgAt we b4 K G' := by rw [← hwe]; exact Dm'.out.drew
              obtain ⟨_, rc1⟩ := JC.out we Eg
              have rI := JRI.out we (kp_of Eg hlt4)
              have fc0 : we.cell? ⟨gf, j, none⟩ = some (.int .u64 (2 * (i : Int) + 1)) := (JF.out we Eg).2 j i HI.out
              have lM := run_loadAt_mid (P := Try.prog) we b4 0 25 _ _ Em.range Try.underlying25 rfl (infoLen K Em.fits)
              have HWi := JW.out i hi12 G' Em.fits ra rc RL we rI JRb.out JRl.out
              unfold WithP at HWi
              have fD : Fits (upd G' i (withF i ra rc RL)) := fits_upd Em.fits (withF_fits i ra rc RL)
              have oD := oneMsg K (upd G' i (withF i ra rc RL))
              have sD := infoSize K fD
              have HGG := hide (fun (w3 : World) (hb : Below we.heap.size we w3) => show w3.there b4 0 (mc K (upd G' i (withF i ra rc RL))).toArray.size ∧ MsgAt (w3.setCells b4 0 (mc K (upd G' i (withF i ra rc RL))).toArray.toList) b4 K (upd G' i (withF i ra rc RL)) ∧ W6.grownBy (w3.setCells b4 0 (mc K (upd G' i (withF i ra rc RL))).toArray.toList) (some b4) by
                have E3 := Em.below hb
                exact ⟨by rw [sizeMsg K fD]; exact E3.there, ⟨fD, World.rangeAt_setCells_same _ _ _ _ (by rw [mc_len K fD]; exact E3.there), World.there_setCells E3.there _ _ _⟩, grown_trans (grown_belowJ Eg hb) (grown_setCells _ _ _ _)⟩)
              obtain ⟨okw, hokw⟩ : ∃ okw, withOk i RL = okw := ⟨_, rfl⟩
              rw [hokw] at HWi
              obtain ⟨D, hD⟩ : ∃ D, (mc K (upd G' i (withF i ra rc RL))).toArray = D := ⟨_, rfl⟩
              obtain ⟨CM, hCM⟩ : ∃ CM, (mc K G').toArray = CM := ⟨_, rfl⟩
              rw [hD] at HWi oD sD HGG
              rw [hCM] at HWi lM
              refine wp_region_any (by kernel_rfl) ?_
              show wpAny _ _ _ _ _ _ _ wd.drew
              rw [hwe]
              refine an_take (i := 1) (some 67) rfl rfl (by kernel_rfl) (by kernel_rfl) (by kernel_rfl) rfl (fun W => ex_mv (v := .slice (some ⟨gf, 0, none⟩) nf nf) rfl rfl) (fun _ _ _ h => h) ?_
              simp only [Act.put, List.setIfInBounds_toArray, List.set_cons_zero, List.set_cons_succ]
              refine an_take (i := 2) (some 68) rfl rfl (by kernel_rfl) (by kernel_rfl) (by kernel_rfl) rfl (fun W => ex_mv (v := .int .i64 j) rfl rfl) (fun _ _ _ h => h) ?_
              simp only [Act.put, List.setIfInBounds_toArray, List.set_cons_zero, List.set_cons_succ]
              refine an_take (i := 3) (some 69) rfl rfl (by kernel_rfl) (by kernel_rfl) (by kernel_rfl) rfl (fun W => ex_index44 (k := j) rfl rfl rfl hlt) (fun _ _ _ h => h) ?_
              simp only [Act.put, List.setIfInBounds_toArray, List.set_cons_zero, List.set_cons_succ]
              refine an_take (i := 5) (some 71) rfl rfl (by kernel_rfl) (by kernel_rfl) (by kernel_rfl) rfl (fun W => ex_mv (v := .slice (some ⟨g, 0, none⟩) m lc) rfl rfl) (fun _ _ _ h => h) ?_
              simp only [Act.put, List.setIfInBounds_toArray, List.set_cons_zero, List.set_cons_succ]
              refine an_take (i := 6) (some 72) rfl rfl (by kernel_rfl) (by kernel_rfl) (by kernel_rfl) rfl (fun W => ex_mv (v := .int .i64 k) rfl rfl) (fun _ _ _ h => h) ?_
              simp only [Act.put, List.setIfInBounds_toArray, List.set_cons_zero, List.set_cons_succ]
              refine an_take (i := 7) (some 73) rfl rfl (by kernel_rfl) (by kernel_rfl) (by kernel_rfl) rfl (fun W => ex_index40 (k := k) rfl rfl rfl hlt2) (fun _ _ _ h => h) ?_
              simp only [Act.put, List.setIfInBounds_toArray, List.set_cons_zero, List.set_cons_succ]
              refine an_take (i := 8) (some 74) rfl rfl (by kernel_rfl) (by kernel_rfl) (by kernel_rfl) rfl (fun W => ex_fldT rfl rfl (fr1 _ _ W)) (fun _ _ _ h => h) ?_
              simp only [Act.put, List.setIfInBounds_toArray, List.set_cons_zero, List.set_cons_succ]
              refine an_three (i := 0) (j := 4) (k := 9) ⟨⟨_, rfl, rfl, rfl⟩, lM⟩ ⟨⟨_, rfl, rfl, rfl⟩, ld36 fc0⟩ ⟨⟨_, rfl, rfl, rfl⟩, ld23 rc1⟩ (by kernel_rfl) (by kernel_rfl) (by kernel_rfl) (by kernel_rfl) (by kernel_rfl) (by kernel_rfl) (by kernel_rfl) rfl rfl rfl (by decide) (by decide) (by decide) (fun o ho => by cases ho; rfl) (fun o ho => by cases ho; rfl) (fun o ho => by cases ho; rfl) ?_
              simp only [Act.put, List.setIfInBounds_toArray, List.set_cons_zero, List.set_cons_succ]
              refine an_call (i := 10) (some 76) rfl rfl (by kernel_rfl) rfl HWi (ex_call (f := 36) (vs := [.agg CM, .int .u64 (2 * (i : Int) + 1), .slice ra RL.length rc]) rfl (cfWith _) rfl) ?_
              rintro e w4 ⟨rfl, hb4x⟩
              refine ⟨_, rfl, ?_⟩
              simp only [Act.put, List.setIfInBounds_toArray, List.set_cons_zero, List.set_cons_succ]
              obtain ⟨T5, M5, G5⟩ := HGG.out w4 hb4x.out
              refine an_one (i := 11) (some 65) rfl rfl (by kernel_rfl) rfl (ex_mv (v := .tuple #[.agg D, .bool okw]) rfl rfl) ?_
              simp only [Act.put, List.setIfInBounds_toArray, List.set_cons_zero, List.set_cons_succ]
              refine an_take (i := 12) (some 77) rfl rfl (by kernel_rfl) (by kernel_rfl) (by kernel_rfl) rfl (fun W => ex_ext (vs := #[.agg D, .bool okw]) (v := .agg D) rfl rfl rfl) (fun _ _ _ h => h) ?_
              simp only [Act.put, List.setIfInBounds_toArray, List.set_cons_zero, List.set_cons_succ]
              refine an_take (i := 13) (some 78) rfl rfl (by kernel_rfl) (by kernel_rfl) (by kernel_rfl) rfl (fun W => ex_ext (vs := #[.agg D, .bool okw]) (v := .bool okw) rfl rfl rfl) (fun _ _ _ h => h) ?_
              simp only [Act.put, List.setIfInBounds_toArray, List.set_cons_zero, List.set_cons_succ]
              refine an_store (i := 14) (ty := 25) (x := .tmp 4) (y := .tmp 77) (b := b4) (p := 0) (cells := D) rfl rfl (by kernel_rfl) rfl rfl rfl rfl T5 sD oD ?_
              refine an_one (i := 15) (some 9) rfl rfl (by kernel_rfl) rfl (ex_asg (v := .bool okw) rfl rfl) ?_
              simp only [Act.put, List.setIfInBounds_toArray, List.set_cons_zero, List.set_cons_succ]
              refine wpAny_done (by kernel_rfl) ?_ _
              have K5 := hide M5
              have KG := hide G5
              have KI := hide (show InI W4 W6 A i G' (k + 1) okw (upd G' i (withF i ra rc RL)) from .inr ⟨RL, ra, rc, by rw [look_take_next JAk.out, JN.out, if_pos rfl]; rfl, hokw.symm, rfl, JRb.out, JRl.out, JRI.out⟩)
              clear M5 G5 T5 sD oD HGG HWi lM rI rc1 fc0 Eg Em hwe hwd
              generalize w4.setCells b4 0 D.toList = w9 at *
              go_wp2
              go_roundw
              case rel => exact ⟨k + 1, okw, upd G' i (withF i ra rc RL), by omega, by go_num, rfl, K5, KG, KI⟩
              case measure => simp [intOf]; omega
            · skip
              refine wp_region_held (S := fun W => W = wd) (by kernel_rfl) ?_
              show wpAnyH _ _ _ _ _ _ _ _ wr.drew
              rw [hwd]
              have S0 : wd = wd := rfl
              refine ah_take (i := 0) (some 55) rfl rfl (by kernel_rfl) (by kernel_rfl) (by kernel_rfl) rfl (fun W _ => ex_mv (v := .slice (some ⟨g, 0, none⟩) m lc) rfl rfl) S0 (fun _ _ _ h => h) ?_
              simp only [Act.put, List.setIfInBounds_toArray, List.set_cons_zero, List.set_cons_succ]
              refine ah_take (i := 1) (some 56) rfl rfl (by kernel_rfl) (by kernel_rfl) (by kernel_rfl) rfl (fun W _ => ex_mv (v := .int .i64 k) rfl rfl) S0 (fun _ _ _ h => h) ?_
              simp only [Act.put, List.setIfInBounds_toArray, List.set_cons_zero, List.set_cons_succ]
              refine ah_take (i := 2) (some 57) rfl rfl (by kernel_rfl) (by kernel_rfl) (by kernel_rfl) rfl (fun W _ => ex_index40 (k := k) rfl rfl rfl hlt2) S0 (fun _ _ _ h => h) ?_
              simp only [Act.put, List.setIfInBounds_toArray, List.set_cons_zero, List.set_cons_succ]
              refine ah_take (i := 3) (some 58) rfl rfl (by kernel_rfl) (by kernel_rfl) (by kernel_rfl) rfl (fun W _ => ex_fldT rfl rfl (fr0 _ _ W)) S0 (fun _ _ _ h => h) ?_
              simp only [Act.put, List.setIfInBounds_toArray, List.set_cons_zero, List.set_cons_succ]
              refine ah_take (i := 4) (some 59) rfl rfl (by kernel_rfl) (by kernel_rfl) (by kernel_rfl) rfl (fun W hh => ex_load rfl rfl (ld36 (by rw [hh]; exact rc0))) S0 (fun _ _ _ h => h) ?_
              simp only [Act.put, List.setIfInBounds_toArray, List.set_cons_zero, List.set_cons_succ]
              refine ah_take (i := 5) (some 60) rfl rfl (by kernel_rfl) (by kernel_rfl) (by kernel_rfl) rfl (fun W _ => ex_mv (v := .slice (some ⟨gf, 0, none⟩) nf nf) rfl rfl) S0 (fun _ _ _ h => h) ?_
              simp only [Act.put, List.setIfInBounds_toArray, List.set_cons_zero, List.set_cons_succ]
              refine ah_take (i := 6) (some 61) rfl rfl (by kernel_rfl) (by kernel_rfl) (by kernel_rfl) rfl (fun W _ => ex_mv (v := .int .i64 j) rfl rfl) S0 (fun _ _ _ h => h) ?_
              simp only [Act.put, List.setIfInBounds_toArray, List.set_cons_zero, List.set_cons_succ]
              refine ah_take (i := 7) (some 62) rfl rfl (by kernel_rfl) (by kernel_rfl) (by kernel_rfl) rfl (fun W _ => ex_index44 (k := j) rfl rfl rfl hlt) S0 (fun _ _ _ h => h) ?_
              simp only [Act.put, List.setIfInBounds_toArray, List.set_cons_zero, List.set_cons_succ]
              refine ah_take (i := 8) (some 63) rfl rfl (by kernel_rfl) (by kernel_rfl) (by kernel_rfl) rfl (fun W hh => ex_load rfl rfl (ld36 (by rw [hh]; exact fc0))) S0 (fun _ _ _ h => h) ?_
              simp only [Act.put, List.setIfInBounds_toArray, List.set_cons_zero, List.set_cons_succ]
              refine ah_take (i := 9) (some 64) rfl rfl (by kernel_rfl) (by kernel_rfl) (by kernel_rfl) rfl (fun W _ => ex_bin (c := .bool false) rfl rfl rfl (eg36 _ _ _ _ _ _) (eq36F e W)) S0 (fun _ _ _ h => h) ?_
              simp only [Act.put, List.setIfInBounds_toArray, List.set_cons_zero, List.set_cons_succ]
              refine ah_done (by kernel_rfl) ?_
              have Dm' := hide Dm
              have Dg' := hide Dg
              have KI := hide (show InI W4 W6 A i G (k + 1) ok G' by
                have hnx := look_take_next (i := i) JAk.out
                rw [if_neg e, Option.or_none] at hnx
                rcases HIn.out with ⟨h1, h2, h3⟩ | ⟨L, a, c, h1, h2⟩
                · exact .inl ⟨hnx.trans h1, h2, h3⟩
                · exact .inr ⟨L, a, c, hnx.trans h1, h2⟩)
              clear Dm Dg S0 rc0 rc1 fc0 hwd
              go_wp2
              go_roundw
              case rel => exact ⟨k + 1, ok, G', by omega, by go_num, rfl, Dm', Dg', KI⟩
              case measure => simp [intOf]; omega
          · have ek : k = m := by omega
            subst ek
            have hAm : A.take k = A := List.take_of_length_le (by rw [← JmA.out]; exact Nat.le_refl _)
            have hkk : ¬ (k : Int) < (k : Int) := by omega
            have hcase : (ok = false ∧ fldA A i = none) ∨ ∃ L a c, look A i = some L ∧ ok = true ∧ withOk i L = true ∧ G' = upd G i (withF i a c L) ∧ Bytes L ∧ L.length ≤ 65536 ∧ (∀ W, Kp W4 W6 W → IsB W a c L) := by
              rcases HIn.out with ⟨h1, h2, _⟩ | ⟨L, a, c, h1, h2, h3, h4, h5, h6⟩
              · rw [hAm] at h1
                exact .inl ⟨h2, fld_none h1⟩
              · rw [hAm] at h1
                cases ho : withOk i L with
                | true => exact .inr ⟨L, a, c, h1, h2.trans ho, ho, h3, h4, h5, h6⟩
                | false => exact .inl ⟨h2.trans ho, fld_bad h1 h4 ho⟩
            clear hlt2 hAm
            rcases hcase with ⟨rfl, hno⟩ | ⟨L, ra, rc, hlk, rfl, hwo, rfl, hLb, hLl, hLI⟩
            · have JNo := hide hno
              clear hno
              obtain ⟨rM, rW⟩ := JM.out wr HG'.out
              obtain ⟨rT, rR, rB⟩ := HRJ.out wr rM rW
              have KT := hide rT
              have KR := hide rR
              have KB := hide rB
              have KN := hide (show ¬ decGood zs from not_good (i := i) (by rw [JK.out]; exact List.mem_of_getElem? HI.out) (by rw [JA.out]; exact JNo.out))
              clear rT rR rB rM rW
              iterate 39 go_step
              refine st_to (some 81) rfl rfl (HB0.out _ _ _ rfl) ?_
              simp only [Act.put, List.setIfInBounds_toArray, List.set_cons_zero, List.set_cons_succ]
              refine st_store (ty := 25) (x := .tmp 2) (y := .tmp 81) (b := w.heap.size) (p := 0) (cells := Z.toArray) rfl rfl rfl rfl rfl KT.out HSZ.out HOZ.out ?_
              refine st_to (some 3) rfl rfl (ex_asg (v := .int .i64 10) rfl rfl) ?_
              simp only [Act.put, List.setIfInBounds_toArray, List.set_cons_zero, List.set_cons_succ]
              repeat go_step
              refine bodyPost_ret (HRT.out _ _ rfl rfl KR.out) rfl (HPO.out _ KN.out KB.out)
            · have L1 := hide hlk
              have L2 := hide hwo
              have L3 := hide hLb
              have L4 := hide hLl
              have L5 := hide hLI
              clear hlk hwo hLb hLl hLI
              go_wp2
              go_roundw
              case rel => exact ⟨j + 1, by omega, by omega, upd G i (withF i ra rc L), HM', hide (HOI.out.step HI.out L1.out L3.out L2.out), hide (fun W hW i' hi' => by
                  unfold upd
                  split
                  · exact good_with (L5.out W hW) L3.out (by have := L4.out; omega)
                  · exact HGo.out W hW i' hi'), hide (fun n hn => by
                  by_cases e2 : 2 = i
                  · rw [← e2, upd_same] at hn; exact withF_num L3.out n hn
                  · rw [upd_other _ _ _ _ e2] at hn; exact HNm.out n hn)⟩
              case measure => simp [intOf]; omega
      · have ej : j = nf := by omega
        subst ej
        have hjj : ¬ (j : Int) < (j : Int) := by omega
        have hdim : K = kindOf zs := JK.out.symm
        have hOI := HOI.out
        rw [hdim, ← JA.out] at hOI
        have hOS := out_says hOI (by rw [← hdim]; exact HNF.out) (by rw [HNL.out]; exact hn2) JE.out
        rw [← hdim] at hOS
        have fG := HM.out.fits
        have gG := HGo.out wr (kp_of HG.out hlt4)
        have HRM := hide (rmay_any K G fG wr gG HNm.out)
        have KR4 := hide HM.out.range
        have KL := hide (infoLen K fG)
        have KS := hide (infoSize K fG)
        have KO := hide (oneMsg K G)
        have KOS := hide hOS
        have KP := hide (fun (tm : Array Value) (W2 : World) (h1 : tm.getD 2 undef = .pointer (some ⟨w.heap.size, 0, none⟩)) (h2 : tm.getD 3 undef = .int .i64 0) (h3 : W2.rangeAt w.heap.size 0 (mc K G)) => ret_msg2 Try.results18 tm W2 w.heap.size K fG (.int .i64 0) h1 h2 h3)
        have KDP := hide (fun (W2 : World) (hs : Says zs K G 0) (hg : Good W2 G) (B : Below w.heap.size w W2) => show DecPost zs w (.returned (.tuple #[.agg (mc K G).toArray, .int .i64 0])) W2 from ⟨K, G, 0, rfl, fG, hide hg, hs, B⟩)
        have KF := hide fG
        have KST := hide (fun (W2 : World) (hg : W6.grownBy W2 (some b4)) => show W2.there w.heap.size 0 (mc K G).toArray.size ∧ (W2.setCells w.heap.size 0 (mc K G).toArray.toList).rangeAt w.heap.size 0 (mc K G) ∧ Below w.heap.size w (W2.setCells w.heap.size 0 (mc K G).toArray.toList) by
          obtain ⟨rM, rW⟩ := JM.out W2 hg
          exact ⟨by rw [sizeMsg K fG]; exact rM.there, World.rangeAt_setCells_same _ _ _ _ (by rw [mc_len K fG]; exact rM.there), rW.grown (grown_setCells _ _ _ _) rW.size (fun k hk => by cases hk; exact Nat.le_refl _)⟩)
        have KGG := hide (fun (W2 : World) (hg : W6.grownBy W2 (some b4)) => show Good (W2.setCells w.heap.size 0 (mc K G).toArray.toList) G by
          exact HGo.out _ (kp_set (kp_of hg hlt4) (by omega) _ _))
        clear hOI hOS fG gG hdim
        generalize mc K G = CM at *
        repeat (first | refine wpList_load_mid rfl 25 (.tmp 4) rfl b4 0 rfl CM _ KR4.out Try.underlying25 rfl KL.out ?_ | go_step)
        refine HRM.out.mono ?_
        rintro e w7 ⟨rfl, hb7⟩
        have G7 := hide (grown_belowJ HG.out hb7.out)
        cases hmay : mayB K G with
        | false =>
          obtain ⟨rM, rW⟩ := JM.out w7 G7.out
          obtain ⟨rT, rR, rB⟩ := HRJ.out w7 rM rW
          have KT := hide rT
          have KR := hide rR
          have KB := hide rB
          have KN := hide (KOS.out.2 hmay)
          clear rT rR rB rM rW
          dsimp only
          iterate 10 go_step
          refine st_to (some 85) rfl rfl (HB0.out _ _ _ rfl) ?_
          simp only [Act.put, List.setIfInBounds_toArray, List.set_cons_zero, List.set_cons_succ]
          refine st_store (ty := 25) (x := .tmp 2) (y := .tmp 85) (b := w.heap.size) (p := 0) (cells := Z.toArray) rfl rfl rfl rfl rfl KT.out HSZ.out HOZ.out ?_
          refine st_to (some 3) rfl rfl (ex_asg (v := .int .i64 10) rfl rfl) ?_
          simp only [Act.put, List.setIfInBounds_toArray, List.set_cons_zero, List.set_cons_succ]
          repeat go_step
          refine bodyPost_ret (HRT.out _ _ rfl rfl KR.out) rfl (HPO.out _ KN.out KB.out)
        | true =>
          have R7 := hide ((fun j v hv => (World.cell?_of_block (hb7.out.block b4 HM.out.lt)).trans (KR4.out j v hv) : w7.rangeAt b4 0 CM))
          obtain ⟨T7, Q7, B7⟩ := KST.out w7 G7.out
          have KT := hide T7
          have KQ := hide Q7
          have KB := hide B7
          have KG7 := hide (KGG.out w7 G7.out)
          have KSy := hide (KOS.out.1 hmay)
          clear T7 Q7 B7
          dsimp only
          repeat (first | refine wpList_load_mid rfl 25 (.tmp 4) rfl b4 0 rfl CM _ R7.out Try.underlying25 rfl KL.out ?_ | refine wpList_store_mid rfl 25 (.tmp 2) (.tmp 86) rfl w.heap.size 0 _ rfl rfl KT.out KS.out KO.out ?_ | go_step)
          refine bodyPost_ret (KP.out _ _ rfl rfl KQ.out) rfl (KDP.out _ KSy.out KG7.out KB.out)
  have hEn : (E != 0) = true := by simp [hE0]
  refine st_to (some 36) rfl rfl (ex_bin (c := .bool true) rfl rfl rfl (eg26 _ _ _ _ _ _) (by rw [← hEn]; exact neq26 _ _ _)) ?_
  simp only [Act.put, List.setIfInBounds_toArray, List.set_cons_zero, List.set_cons_succ]
  refine st_to (some 37) rfl rfl (ex_mv (v := .bool true) rfl rfl) ?_
  simp only [Act.put, List.setIfInBounds_toArray, List.set_cons_zero, List.set_cons_succ]
  refine st_no (some 38) rfl rfl ?_
  simp only [Act.put, List.setIfInBounds_toArray, List.set_cons_zero, List.set_cons_succ]
  refine st_no (some 39) rfl rfl ?_
  simp only [Act.put, List.setIfInBounds_toArray, List.set_cons_zero, List.set_cons_succ]
  refine st_no (some 40) rfl rfl ?_
  simp only [Act.put, List.setIfInBounds_toArray, List.set_cons_zero, List.set_cons_succ]
  refine st_to (some 41) rfl rfl (ex_pkT (v := .bool true) rfl rfl rfl) ?_
  simp only [Act.put, List.setIfInBounds_toArray, List.set_cons_zero, List.set_cons_succ]
  refine st_end ?_
  refine wp_cond_true rfl ?_
  refine wp_seq (wp_region_lit ?_)
  obtain ⟨rT, rR, rB⟩ := HRJ.out W6 M26 B6w
  refine st_to (some 42) rfl rfl (HB0.out _ _ _ rfl) ?_
  simp only [Act.put, List.setIfInBounds_toArray, List.set_cons_zero, List.set_cons_succ]
  refine st_store (ty := 25) (x := .tmp 2) (y := .tmp 42) (b := w.heap.size) (p := 0) (cells := Z.toArray) rfl rfl rfl rfl rfl rT HSZ.out HOZ.out ?_
  refine st_to (some 3) rfl rfl (ex_asg (v := .int .i64 10) rfl rfl) ?_
  simp only [Act.put, List.setIfInBounds_toArray, List.set_cons_zero, List.set_cons_succ]
  refine st_end ?_
  refine wp_ret ?_
  refine ret_out ?_
  refine bodyPost_ret (HRT.out _ _ rfl rfl rR) rfl (HPO.out _ (fun hg => hE0 (hE.symm.trans hg.2.1)) rB)
end Go.Proofs.Ytcbadmkgbaffpaa
