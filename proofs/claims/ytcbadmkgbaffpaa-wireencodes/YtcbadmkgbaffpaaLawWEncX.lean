/- Proved: for every message the statement WireEncodes (P6.1, P6.3: the bytes of any message; they are decoded again; the message stays as it was) returns true over the code at the commit, and changes none of its arguments. No condition. -/
import Derived.Test.YtcbadmkgbaffpaaRAll
namespace Go.Proofs.Ytcbadmkgbaffpaa.wireEncodes
open Go.ChangeShapes Go.WideShapes Go.ChangeAt Go.RowKit
set_option linter.unusedVariables false
set_option linter.unusedSimpArgs false

theorem bare_plain {K : Int} {F : Nat → Fld} (i : Nat) : (bareF K F i).plain = bareP K F i := by
  unfold bareP
  split
  · rename_i h; rw [bareF_in h]
  · rename_i h; rw [bareF_out h]
/-- what Encode answers, whatever the message -/
theorem encode_any (K : Int) (F : Nat → Fld) (hF : Fits F) (w : World) (hG : Good w F) :
    Calls Try.prog 9 #[.agg (mc K F).toArray] w fun e w' => (∃ a c l E, e = .returned (.tuple #[.slice a l c, .int .i64 E]) ∧ ((mayB K F = false ∧ E = 1 ∧ a = none ∧ l = 0 ∧ c = 0) ∨ (mayB K F = true ∧ E = 0 ∧ l = (encB K F).length ∧ IsB w' a c (encB K F) ∧ l ≤ c ∧ c ≤ 9223372036854775807))) ∧ Hid (Below w.heap.size w w') := by
  cases hm : mayB K F with
  | false => exact (encode_no K F hF w hG hm).mono fun e w' hh => ⟨⟨none, 0, 0, 1, hh.1, .inl ⟨rfl, rfl, rfl, rfl, rfl⟩⟩, hh.2⟩
  | true => exact (encode_ok K F hF w hG hm).mono fun e w' ⟨a, c, h1, h2, h3, h4, h5⟩ => ⟨⟨a, c, _, 0, h1, .inr ⟨rfl, rfl, rfl, h2.out, h3, h4⟩⟩, h5⟩
/-- the bytes that both have: none, or the message's -/
def bothB (K : Int) (F : Nat → Fld) : List Int := if mayB K F = true then encB K F else []
def bothE (K : Int) (F : Nat → Fld) : Int := if mayB K F = true then 0 else 1
theorem both {w : World} {K : Int} {F : Nat → Fld} {a : Option Addr} {c l : Nat} {E : Int} (h : (mayB K F = false ∧ E = 1 ∧ a = none ∧ l = 0 ∧ c = 0) ∨ (mayB K F = true ∧ E = 0 ∧ l = (encB K F).length ∧ IsB w a c (encB K F) ∧ l ≤ c ∧ c ≤ 9223372036854775807)) : E = bothE K F ∧ l = (bothB K F).length ∧ IsB w a c (bothB K F) ∧ l ≤ c ∧ c ≤ 9223372036854775807 := by
  unfold bothB bothE
  rcases h with ⟨h1, rfl, rfl, rfl, rfl⟩ | ⟨h1, rfl, h2, h3, h4, h5⟩
  · rw [h1]
    exact ⟨rfl, rfl, .inl ⟨rfl, rfl, rfl⟩, by omega, by omega⟩
  · rw [if_pos h1, if_pos h1]
    exact ⟨rfl, h2, h3, h4, h5⟩
theorem good_upd {w : World} {F : Nat → Fld} (h : Good w F) {i : Nat} {f : Fld} (hf : GoodF w f) : Good w (upd F i f) := fun j hj => by
  unfold upd
  split
  · exact hf
  · exact h j hj

set_option maxHeartbeats 16000000 in
theorem walk_any (K : Int) (F : Nat → Fld) (w : World) (hF : Fits F) (hG : Good w F) (hA : ∀ n, F 2 = .num n → n ≤ 9223372036854775807) :
    Calls Try.prog 3 #[.agg (mc K F).toArray] w fun e w' => e = .returned (.bool true) ∧ Below w.heap.size w w' := by
  obtain ⟨W0, hW0⟩ : ∃ W0, w.alloc (.cells (mc K F).toArray 25) = W0 := ⟨_, rfl⟩
  have M0 : MsgAt W0 w.heap.size K F := by rw [← hW0]; exact MsgAt.new w K hF
  have B0 : Below w.heap.size w W0 := by rw [← hW0]; exact (Below.refl _ _).alloc (Nat.le_refl _) _
  have hs0 : W0.heap.size = w.heap.size + 1 := by rw [← hW0]; simp
  obtain ⟨T1, M3, B1⟩ := lives_msg (w := W0) (K := K) rfl hF
  have HRE := hide (fun (W : World) (h : Good W F) => rencode_any K F hF W h hA)
  have HRB := hide (fun (W : World) => rbare_any K F hF W)
  have HRM := hide (fun (W : World) (h : Good W F) => rmay_any K F hF W h hA)
  have HAL := hide (fun (a : Act) (W : World) (o : Oper) (ho : o.op = .alloc 25) => ex_alloc25 (a := a) (W := W) ho)
  have HS1 := hide (infoSize K hF)
  have HO1 := hide (oneMsg K F)
  obtain ⟨a5, c5, l5, h5⟩ := fits_lst (hF 5 (by omega)) rfl
  obtain ⟨a11, c11, l11, h11⟩ := fits_lst (hF 11 (by omega)) rfl
  have g5 := hG 5 (by omega)
  rw [h5] at g5
  have g11 := hG 11 (by omega)
  rw [h11] at g11
  obtain ⟨C, hC⟩ : ∃ C, (mc K F).toArray = C := ⟨_, rfl⟩
  have HC := hide hC
  obtain ⟨Z, hZ⟩ : ∃ Z, (mc 0 ZF).toArray = Z := ⟨_, rfl⟩
  have HZ := hide hZ
  obtain ⟨RB, hRB⟩ : ∃ RB, (mc K (bareF K F)).toArray = RB := ⟨_, rfl⟩
  have HRBe := hide hRB
  rw [hC] at hW0 HRE HRB HRM HS1 HO1 ⊢
  rw [hC, hZ] at T1 M3 B1
  rw [hZ] at HAL
  rw [hRB] at HRB
  clear hC hZ hRB
  obtain ⟨W1, hW1⟩ : ∃ W1, (W0.alloc (.cells Z 25)).setCells W0.heap.size 0 C.toList = W1 := ⟨_, rfl⟩
  rw [hW1] at M3 B1
  have M1 := M0.below B1
  have BW1 := B0.trans (B1.mono B0.size)
  have lC0 : (Instr.loadAt 25 (.pointer (some ⟨w.heap.size, 0, none⟩))).run Try.prog W0 = .ok (.agg C) W0 := by rw [← HC.out]; exact run_loadAt_mid W0 _ 0 25 _ _ M0.range Try.underlying25 rfl (infoLen K hF)
  go_enter Try.func3, Try.ntmps3
  refine wp_seq (wp_region_lit ?_)
  refine st_to (some 1) rfl rfl (ex_box25 (C := C) rfl rfl) ?_
  simp only [Act.put, List.setIfInBounds_toArray, List.set_cons_zero, List.set_cons_succ]
  rw [hW0]
  refine st_to (some 2) rfl rfl (ex_asg (v := .bool false) rfl rfl) ?_
  simp only [Act.put, List.setIfInBounds_toArray, List.set_cons_zero, List.set_cons_succ]
  refine st_end ?_
  refine wp_seq (wp_region_lit ?_)
  refine st_to (some 9) rfl rfl (ex_load rfl rfl lC0) ?_
  simp only [Act.put, List.setIfInBounds_toArray, List.set_cons_zero, List.set_cons_succ]
  refine st_to (some 3) rfl rfl (HAL.out _ _ _ rfl) ?_
  simp only [Act.put, List.setIfInBounds_toArray, List.set_cons_zero, List.set_cons_succ]
  refine st_store (ty := 25) (x := .tmp 3) (y := .tmp 9) (b := W0.heap.size) (p := 0) (cells := C) rfl rfl rfl rfl rfl T1 HS1.out HO1.out ?_
  rw [hW1]
  refine st_end ?_
  obtain ⟨b3, hb3⟩ : ∃ b3, W0.heap.size = b3 := ⟨_, rfl⟩
  rw [hb3] at M3 ⊢
  obtain ⟨wd, hwd⟩ : ∃ wd, W1.drew = wd := ⟨_, rfl⟩
  have D1 : MsgAt wd w.heap.size K F := by rw [← hwd]; exact M1.drew
  have D3 : MsgAt wd b3 K F := by rw [← hwd]; exact M3.drew
  have BD : Below w.heap.size w wd := by rw [← hwd]; exact below_drew BW1
  have hb31 : w.heap.size ≠ b3 := by omega
  have q5 : ∀ W, wd.grownBy W (some b3) → W.cell? ⟨w.heap.size, 37, none⟩ = some (.slice a5 l5.length c5) := fun W h => (D1.grown h (by intro e; exact hb31 (Option.some.inj e))).lst (i := 5) (by omega) h5
  have q11 : ∀ W, wd.grownBy W (some b3) → W.cell? ⟨w.heap.size, 136, none⟩ = some (.slice a11 l11.length c11) := fun W h => (D1.grown h (by intro e; exact hb31 (Option.some.inj e))).lst (i := 11) (by omega) h11
  have i5 : ∀ W, wd.grownBy W (some b3) → IsB W a5 c5 l5 := fun W h => isB_kept (g5.1.below BD) (fun x hx hl => h.block x.block (by subst hx; exact isB_lt (g5.1.below BD) hl) (by subst hx; intro e; have := isB_lt g5.1 hl; have := Option.some.inj e; omega))
  have i11 : ∀ W, wd.grownBy W (some b3) → IsB W a11 c11 l11 := fun W h => isB_kept (g11.1.below BD) (fun x hx hl => h.block x.block (by subst hx; exact isB_lt (g11.1.below BD) hl) (by subst hx; intro e; have := isB_lt g11.1 hl; have := Option.some.inj e; omega))
  have hlt3 : b3 < wd.heap.size := D3.lt
  have sT : ∀ W, Below wd.heap.size wd W → wd.grownBy W (some b3) := fun W h => ⟨h.os, h.tape, h.output, h.size, fun k hk _ => h.block k hk⟩
  refine wp_seq ?_
  refine wp_region_held (S := fun W => wd.grownBy W (some b3)) (by kernel_rfl) ?_
  show wpAnyH _ _ _ _ _ _ _ _ W1.drew
  rw [hwd]
  have S0 : wd.grownBy wd (some b3) := World.grownBy.refl _ _
  have T0 : Below wd.heap.size wd wd := Below.refl _ _
  refine ah_take (i := 1) (some 11) rfl rfl (by kernel_rfl) (by kernel_rfl) (by kernel_rfl) rfl (fun W _ => ex_fld rfl rfl (fa6 _ W)) S0 (fun _ _ _ h => h) ?_
  simp only [Act.put, List.setIfInBounds_toArray, List.set_cons_zero, List.set_cons_succ]
  refine ah_take (i := 5) (some 15) rfl rfl (by kernel_rfl) (by kernel_rfl) (by kernel_rfl) rfl (fun W _ => ex_fld rfl rfl (fa12 _ W)) S0 (fun _ _ _ h => h) ?_
  simp only [Act.put, List.setIfInBounds_toArray, List.set_cons_zero, List.set_cons_succ]
  refine ah_take (i := 2) (some 12) rfl rfl (by kernel_rfl) (by kernel_rfl) (by kernel_rfl) rfl (fun W h => ex_load rfl rfl (ld23 (q5 W h))) S0 (fun _ _ _ h => h) ?_
  simp only [Act.put, List.setIfInBounds_toArray, List.set_cons_zero, List.set_cons_succ]
  refine ah_take (i := 6) (some 16) rfl rfl (by kernel_rfl) (by kernel_rfl) (by kernel_rfl) rfl (fun W h => ex_load rfl rfl (ld23 (q11 W h))) S0 (fun _ _ _ h => h) ?_
  simp only [Act.put, List.setIfInBounds_toArray, List.set_cons_zero, List.set_cons_succ]
  refine cap fun ops Q S hops hQ hS => ?_
  have REST : ∀ (v10 v14 : Value) (pa ra : Option Addr) (pc rc : Nat) (W : World), Below wd.heap.size wd W → IsB W pa pc l5 → (∀ x, pa = some x → wd.heap.size ≤ x.block) → W.ownsRow wd.heap.size 5 1 (.slice ra l11.length rc) l11.length (U8 l11) → wpAnyH Try.prog .any ops Q S 3 #[true, true, true, true, true, true, true, true, true, false, false, false] { tmps := #[.agg C, .pointer (some ⟨w.heap.size, 0, none⟩), .bool false, .pointer (some ⟨b3, 0, none⟩), undef, undef, undef, undef, undef, .agg C, v10, .pointer (some ⟨w.heap.size, 37, none⟩), .slice a5 l5.length c5, .slice pa l5.length pc, v14, .pointer (some ⟨w.heap.size, 136, none⟩), .slice a11 l11.length c11, .slice ra l11.length rc, .pointer (some ⟨b3, 37, none⟩), undef, undef, undef, undef, undef, undef, undef, undef, undef, undef, undef, undef, undef, undef, undef, undef, undef, undef, undef, undef, undef, undef, undef, undef, undef, undef, undef, undef, undef, undef, undef, undef, undef, undef, undef, undef, undef, undef, undef, undef, undef, undef, undef, undef, undef, undef, undef, undef, undef, undef, undef, undef, undef, undef, undef, undef, undef, undef, undef, undef], defers := [] } W := by
    subst hops hQ hS
    intro v10 v14 pa ra pc rc W TW hIp hge hor
    obtain ⟨_, _, er, hIr, _, _⟩ := own_isB hor
    cases er
    have hger := own_ge hor
    have M1w := D1.below TW
    have M3w := D3.below TW
    have c5w := M3w.lst (i := 5) (by omega) h5
    have r5w : W.frozen? ⟨b3, 37, none⟩ = false := M3w.free (i := 5) (by omega)
    obtain ⟨f5, hf5⟩ : ∃ f5, Fld.lst pa pc l5 = f5 := ⟨_, rfl⟩
    have ff5 : f5.fits 5 := by rw [← hf5]; exact ⟨rfl, fun l h => by cases h⟩
    have N3 := M3w.set (i := 5) (by omega) ff5
    have G3 := grown_setCells b3 f5.cells (off 5) W
    obtain ⟨W', hW'⟩ : ∃ W', W.setCells b3 (off 5) f5.cells = W' := ⟨_, rfl⟩
    have hset : W.setCell ⟨b3, 37, none⟩ (.slice pa l5.length pc) = W' := by rw [← hW', ← hf5]; rfl
    rw [hW'] at N3 G3
    have h11' : upd F 5 f5 11 = .lst a11 c11 l11 := by rw [upd_other F 5 11 f5 (by omega)]; exact h11
    have c11w := N3.lst (i := 11) (by omega) h11'
    have r11w : W'.frozen? ⟨b3, 136, none⟩ = false := N3.free (i := 11) (by omega)
    obtain ⟨f11, hf11⟩ : ∃ f11, Fld.lst ra rc l11 = f11 := ⟨_, rfl⟩
    have ff11 : f11.fits 11 := by rw [← hf11]; exact ⟨rfl, fun l h => by cases h⟩
    have N4 := N3.set (i := 11) (by omega) ff11
    have G4 := grown_setCells b3 f11.cells (off 11) W'
    obtain ⟨U, hU⟩ : ∃ U, W'.setCells b3 (off 11) f11.cells = U := ⟨_, rfl⟩
    have hset2 : W'.setCell ⟨b3, 136, none⟩ (.slice ra l11.length rc) = U := by rw [← hU, ← hf11]; rfl
    rw [hU] at N4 G4
    have S1 := grown_trans (sT W TW) G3
    have S2 := grown_trans S1 G4
    refine ah_or1 (i := 9) (by kernel_rfl) (nx_skip rfl rfl rfl (ex_store23 rfl rfl rfl c5w r5w) (by rw [hset]; exact S1) ?_)
    rw [hset]
    refine ah_take (i := 10) (some 19) rfl rfl (by kernel_rfl) (by kernel_rfl) (by kernel_rfl) rfl (fun W _ => ex_fld rfl rfl (fa12 _ W)) S1 (fun _ _ _ h => h) ?_
    simp only [Act.put, List.setIfInBounds_toArray, List.set_cons_zero, List.set_cons_succ]
    refine ah_or1 (i := 11) (by kernel_rfl) (nx_skip rfl rfl rfl (ex_store23 rfl rfl rfl c11w r11w) (by rw [hset2]; exact S2) ?_)
    rw [hset2]
    refine ah_done (by kernel_rfl) ?_
    have ne31 : some w.heap.size ≠ some b3 := by intro e; exact hb31 (Option.some.inj e)
    have M1u := (M1w.grown G3 ne31).grown G4 ne31
    obtain ⟨F2, hF2⟩ : ∃ F2, upd (upd F 5 f5) 11 f11 = F2 := ⟨_, rfl⟩
    rw [hF2] at N4
    have HP : ∀ i, i < 12 → (F2 i).plain = (F i).plain := fun i _ => by
      rw [← hF2, upd_plain (F := upd F 5 f5) (i := 11) (f := f11) (by rw [h11', ← hf11]; rfl), upd_plain (F := F) (i := 5) (f := f5) (by rw [h5, ← hf5]; rfl)]
    have BU : Below w.heap.size w U := ((BD.trans (TW.mono BD.size)).grown G3 (BD.trans (TW.mono BD.size)).size (fun k hk => by cases hk; omega)).grown G4 (by have := (BD.trans (TW.mono BD.size)).size; have := G3.size; omega) (fun k hk => by cases hk; omega)
    have GU := hG.below BU
    have nl : ∀ (a : Option Addr), (∀ x, a = some x → wd.heap.size ≤ x.block) → ∀ (L : List Int) x, a = some x → L ≠ [] → some x.block ≠ some b3 := fun a h L x hx _ e => by have := h x hx; have := Option.some.inj e; omega
    have gf5 : GoodF U f5 := by rw [← hf5]; exact ⟨isB_grown (isB_grown hIp (nl pa hge l5) G3) (nl pa hge l5) G4, g5.2⟩
    have gf11 : GoodF U f11 := by rw [← hf11]; exact ⟨isB_grown (isB_grown hIr (nl ra hger l11) G3) (nl ra hger l11) G4, g11.2⟩
    have GO : Good U F2 := by rw [← hF2]; exact good_upd (good_upd GU gf5) gf11
    have fO := N4.fits
    have HEO := hide (fun (W : World) (h : Good W F2) => encode_any K F2 fO W h)
    have HMO := hide (fun (W : World) => may_any K F2 fO GO.small W)
    have HBO := hide (fun (W : World) (h : Good W F2) => bare_any K F2 fO W h)
    have HSO := hide (fun (W : World) (h1 : Good W F2) (h2 : Good W F) => same_any K K F2 F fO hF W h1 h2)
    rw [sameB_of HP] at HSO
    rw [may_plain HP, enc_plain HP] at HEO
    rw [may_plain HP] at HMO
    have HBP := hide (fun i (hi : i < 12) => bareP_plain (K := K) HP i hi)
    have HS2 := hide (fun (G : Nat → Fld) (f2 : Fits G) (hp : ∀ i, i < 12 → (G i).plain = bareP K F2 i) (W : World) (h1 : Good W G) (h2 : Good W F) => (same_any K K G (bareF K F) f2 (bareK_fits hF) W h1 h2.bare).mono (fun e w' hh => show e = .returned (.bool true) ∧ Hid (Below W.heap.size W w') from ⟨by rw [hh.1, sameB_of (fun i hi => ((hp i hi).trans (HBP.out i hi)).trans (bare_plain i).symm)], hh.2⟩))
    have HS3 := hide (fun (G : Nat → Fld) (f2 : Fits G) (W : World) (h1 : Good W G) (h2 : Good W F) => same_any K K G F f2 hF W h1 h2)
    obtain ⟨CO, hCO⟩ : ∃ CO, (mc K F2).toArray = CO := ⟨_, rfl⟩
    have HCO := hide hCO
    rw [hCO] at HEO HMO HBO HSO
    rw [HC.out] at HSO HS3
    rw [HRBe.out] at HS2
    clear hCO hset hset2 hU hW'
    have lO : ∀ W', Below U.heap.size U W' → (Instr.loadAt 25 (.pointer (some ⟨b3, 0, none⟩))).run Try.prog W' = .ok (.agg CO) W' := fun W' h => by rw [← HCO.out]; exact run_loadAt_mid W' _ 0 25 _ _ (N4.below h).range Try.underlying25 rfl (infoLen K fO)
    have lC : ∀ W', Below U.heap.size U W' → (Instr.loadAt 25 (.pointer (some ⟨w.heap.size, 0, none⟩))).run Try.prog W' = .ok (.agg C) W' := fun W' h => by rw [← HC.out]; exact run_loadAt_mid W' _ 0 25 _ _ (M1u.below h).range Try.underlying25 rfl (infoLen K hF)
    refine wp_seq (wp_region_lit ?_)
    refine st_to (some 21) rfl rfl (ex_load rfl rfl (lO _ (Below.refl _ _))) ?_
    simp only [Act.put, List.setIfInBounds_toArray, List.set_cons_zero, List.set_cons_succ]
    refine st_call (some 22) rfl rfl (HEO.out U GO) (ex_call (f := 9) (vs := [.agg CO]) rfl (cfEncode _) rfl) ?_
    rintro e x1 ⟨⟨ea, ec, el, E1, rfl, hc1⟩, HX1⟩
    refine ⟨_, rfl, ?_⟩
    simp only [Act.put, List.setIfInBounds_toArray, List.set_cons_zero, List.set_cons_succ]
    obtain ⟨hE1, hl1, hI1, hle1, hm1⟩ := both hc1
    have Y1 := HX1.out
    refine st_to (some 20) rfl rfl (ex_mv (v := .tuple #[.slice ea el ec, .int .i64 E1]) rfl rfl) ?_
    simp only [Act.put, List.setIfInBounds_toArray, List.set_cons_zero, List.set_cons_succ]
    refine st_to (some 23) rfl rfl (ex_ext (vs := #[.slice ea el ec, .int .i64 E1]) (v := .slice ea el ec) rfl rfl rfl) ?_
    simp only [Act.put, List.setIfInBounds_toArray, List.set_cons_zero, List.set_cons_succ]
    refine st_to (some 24) rfl rfl (ex_ext (vs := #[.slice ea el ec, .int .i64 E1]) (v := .int .i64 E1) rfl rfl rfl) ?_
    simp only [Act.put, List.setIfInBounds_toArray, List.set_cons_zero, List.set_cons_succ]
    refine st_to (some 4) rfl rfl (ex_asg (v := .slice ea el ec) rfl rfl) ?_
    simp only [Act.put, List.setIfInBounds_toArray, List.set_cons_zero, List.set_cons_succ]
    refine st_to (some 5) rfl rfl (ex_asg (v := .int .i64 E1) rfl rfl) ?_
    simp only [Act.put, List.setIfInBounds_toArray, List.set_cons_zero, List.set_cons_succ]
    refine st_end ?_
    refine wp_seq (wp_region_lit ?_)
    refine st_to (some 26) rfl rfl (ex_load rfl rfl (lC _ Y1)) ?_
    simp only [Act.put, List.setIfInBounds_toArray, List.set_cons_zero, List.set_cons_succ]
    refine st_call (some 27) rfl rfl (HRE.out x1 (GU.below Y1)) (ex_call (f := 10) (vs := [.agg C]) rfl (cfREncode _) rfl) ?_
    rintro e x2 ⟨⟨fa, fc, fl2, E2, rfl, hc2⟩, HX2⟩
    refine ⟨_, rfl, ?_⟩
    simp only [Act.put, List.setIfInBounds_toArray, List.set_cons_zero, List.set_cons_succ]
    obtain ⟨hE2, hl2, hI2, hle2, hm2⟩ := both hc2
    have Y2 := Y1.trans (HX2.out.mono Y1.size)
    have hI1' := hI1.below HX2.out
    clear hc1 hc2
    subst hE1 hE2
    refine st_to (some 25) rfl rfl (ex_mv (v := .tuple #[.slice fa fl2 fc, .int .i64 (bothE K F)]) rfl rfl) ?_
    simp only [Act.put, List.setIfInBounds_toArray, List.set_cons_zero, List.set_cons_succ]
    refine st_to (some 28) rfl rfl (ex_ext (vs := #[.slice fa fl2 fc, .int .i64 (bothE K F)]) (v := .slice fa fl2 fc) rfl rfl rfl) ?_
    simp only [Act.put, List.setIfInBounds_toArray, List.set_cons_zero, List.set_cons_succ]
    refine st_to (some 29) rfl rfl (ex_ext (vs := #[.slice fa fl2 fc, .int .i64 (bothE K F)]) (v := .int .i64 (bothE K F)) rfl rfl rfl) ?_
    simp only [Act.put, List.setIfInBounds_toArray, List.set_cons_zero, List.set_cons_succ]
    refine st_to (some 6) rfl rfl (ex_asg (v := .slice fa fl2 fc) rfl rfl) ?_
    simp only [Act.put, List.setIfInBounds_toArray, List.set_cons_zero, List.set_cons_succ]
    refine st_to (some 7) rfl rfl (ex_asg (v := .int .i64 (bothE K F)) rfl rfl) ?_
    simp only [Act.put, List.setIfInBounds_toArray, List.set_cons_zero, List.set_cons_succ]
    refine st_end ?_
    obtain ⟨ud, hud⟩ : ∃ ud, x2.drew = ud := ⟨_, rfl⟩
    have Yd : Below U.heap.size U ud := by rw [← hud]; exact below_drew Y2
    have Id1 : IsB ud ea ec (bothB K F) := by rw [← hud]; exact isB_kept hI1' (fun _ _ _ => rfl)
    have Id2 : IsB ud fa fc (bothB K F) := by rw [← hud]; exact isB_kept hI2 (fun _ _ _ => rfl)
    have sO : ∀ W, Below ud.heap.size ud W → Good W F2 := fun W h => GO.below (Yd.trans (h.mono Yd.size))
    have sF : ∀ W, Below ud.heap.size ud W → Good W F := fun W h => GU.below (Yd.trans (h.mono Yd.size))
    have tO := fun W (h : Below ud.heap.size ud W) => lO W (Yd.trans (h.mono Yd.size))
    have tC := fun W (h : Below ud.heap.size ud W) => lC W (Yd.trans (h.mono Yd.size))
    have cv1 : ∀ W, Below ud.heap.size ud W → (convert 23 9 (.slice ea el ec)).run Try.prog W = .ok (.string (strOfNums (bothB K F))) W := fun W h => by rw [hl1]; exact conv_any (Id1.below h)
    have cv2 : ∀ W, Below ud.heap.size ud W → (convert 23 9 (.slice fa fl2 fc)).run Try.prog W = .ok (.string (strOfNums (bothB K F))) W := fun W h => by rw [hl2]; exact conv_any (Id2.below h)
    refine wp_seq ?_
    refine wp_seq ?_
    refine wp_region_held (S := fun W => Below ud.heap.size ud W) (by kernel_rfl) ?_
    show wpAnyH _ _ _ _ _ _ _ _ x2.drew
    rw [hud]
    have Q0 : Below ud.heap.size ud ud := Below.refl _ _
    refine ah_call (i := 0) (some 30) rfl rfl (by kernel_rfl) rfl (lives_any _) (ex_call (f := 11) (vs := []) rfl (cfLives _) rfl) ?_
    rintro e u1w ⟨rfl, HQ1⟩
    have Q1 := Q0.trans (HQ1.out.mono Q0.size)
    refine ⟨_, rfl, Q1, ?_⟩
    simp only [Act.put, List.setIfInBounds_toArray, List.set_cons_zero, List.set_cons_succ]
    refine ah_take (i := 1) (some 31) rfl rfl (by kernel_rfl) (by kernel_rfl) (by kernel_rfl) rfl (fun W _ => ex_not (r := true) rfl rfl) Q1 (fun _ _ _ h => h) ?_
    simp only [Act.put, List.setIfInBounds_toArray, List.set_cons_zero, List.set_cons_succ]
    refine ah_take (i := 2) (some 32) rfl rfl (by kernel_rfl) (by kernel_rfl) (by kernel_rfl) rfl (fun W _ => ex_mv (v := .bool false) rfl rfl) Q1 (fun _ _ _ h => h) ?_
    simp only [Act.put, List.setIfInBounds_toArray, List.set_cons_zero, List.set_cons_succ]
    refine ah_take (i := 3) (some 33) rfl rfl (by kernel_rfl) (by kernel_rfl) (by kernel_rfl) rfl (fun W _ => ex_mv (v := .slice ea el ec) rfl rfl) Q1 (fun _ _ _ h => h) ?_
    simp only [Act.put, List.setIfInBounds_toArray, List.set_cons_zero, List.set_cons_succ]
    refine ah_take (i := 4) (some 34) rfl rfl (by kernel_rfl) (by kernel_rfl) (by kernel_rfl) rfl (fun W h => ex_conv rfl rfl (cv1 W h)) Q1 (fun _ _ _ h => h) ?_
    simp only [Act.put, List.setIfInBounds_toArray, List.set_cons_zero, List.set_cons_succ]
    refine ah_take (i := 5) (some 35) rfl rfl (by kernel_rfl) (by kernel_rfl) (by kernel_rfl) rfl (fun W _ => ex_mv (v := .slice fa fl2 fc) rfl rfl) Q1 (fun _ _ _ h => h) ?_
    simp only [Act.put, List.setIfInBounds_toArray, List.set_cons_zero, List.set_cons_succ]
    refine ah_take (i := 6) (some 36) rfl rfl (by kernel_rfl) (by kernel_rfl) (by kernel_rfl) rfl (fun W h => ex_conv rfl rfl (cv2 W h)) Q1 (fun _ _ _ h => h) ?_
    simp only [Act.put, List.setIfInBounds_toArray, List.set_cons_zero, List.set_cons_succ]
    refine ah_take (i := 7) (some 37) rfl rfl (by kernel_rfl) (by kernel_rfl) (by kernel_rfl) rfl (fun W _ => ex_bin (c := .bool false) rfl rfl rfl (eg9' _ _ _ _ _ _) (neq9 _ _)) Q1 (fun _ _ _ h => h) ?_
    simp only [Act.put, List.setIfInBounds_toArray, List.set_cons_zero, List.set_cons_succ]
    refine ah_take (i := 8) (some 38) rfl rfl (by kernel_rfl) (by kernel_rfl) (by kernel_rfl) rfl (fun W _ => ex_pkF (v := .bool false) rfl rfl rfl) Q1 (fun _ _ _ h => h) ?_
    simp only [Act.put, List.setIfInBounds_toArray, List.set_cons_zero, List.set_cons_succ]
    refine ah_take (i := 9) (some 39) rfl rfl (by kernel_rfl) (by kernel_rfl) (by kernel_rfl) rfl (fun W _ => ex_mv (v := .bool false) rfl rfl) Q1 (fun _ _ _ h => h) ?_
    simp only [Act.put, List.setIfInBounds_toArray, List.set_cons_zero, List.set_cons_succ]
    refine ah_take (i := 10) (some 40) rfl rfl (by kernel_rfl) (by kernel_rfl) (by kernel_rfl) rfl (fun W _ => ex_mv (v := .int .i64 (bothE K F)) rfl rfl) Q1 (fun _ _ _ h => h) ?_
    simp only [Act.put, List.setIfInBounds_toArray, List.set_cons_zero, List.set_cons_succ]
    refine ah_take (i := 11) (some 41) rfl rfl (by kernel_rfl) (by kernel_rfl) (by kernel_rfl) rfl (fun W _ => ex_mv (v := .int .i64 (bothE K F)) rfl rfl) Q1 (fun _ _ _ h => h) ?_
    simp only [Act.put, List.setIfInBounds_toArray, List.set_cons_zero, List.set_cons_succ]
    refine ah_take (i := 12) (some 42) rfl rfl (by kernel_rfl) (by kernel_rfl) (by kernel_rfl) rfl (fun W _ => ex_bin (c := .bool false) rfl rfl rfl (eg26 _ _ _ _ _ _) (neq26s _ _)) Q1 (fun _ _ _ h => h) ?_
    simp only [Act.put, List.setIfInBounds_toArray, List.set_cons_zero, List.set_cons_succ]
    refine ah_take (i := 13) (some 43) rfl rfl (by kernel_rfl) (by kernel_rfl) (by kernel_rfl) rfl (fun W _ => ex_pkF (v := .bool false) rfl rfl rfl) Q1 (fun _ _ _ h => h) ?_
    simp only [Act.put, List.setIfInBounds_toArray, List.set_cons_zero, List.set_cons_succ]
    refine ah_take (i := 14) (some 44) rfl rfl (by kernel_rfl) (by kernel_rfl) (by kernel_rfl) rfl (fun W _ => ex_mv (v := .bool false) rfl rfl) Q1 (fun _ _ _ h => h) ?_
    simp only [Act.put, List.setIfInBounds_toArray, List.set_cons_zero, List.set_cons_succ]
    refine ah_take (i := 15) (some 45) rfl rfl (by kernel_rfl) (by kernel_rfl) (by kernel_rfl) rfl (fun W h => ex_load rfl rfl (tO W h)) Q1 (fun _ _ _ h => h) ?_
    simp only [Act.put, List.setIfInBounds_toArray, List.set_cons_zero, List.set_cons_succ]
    refine ah_take (i := 17) (some 47) rfl rfl (by kernel_rfl) (by kernel_rfl) (by kernel_rfl) rfl (fun W h => ex_load rfl rfl (tC W h)) Q1 (fun _ _ _ h => h) ?_
    simp only [Act.put, List.setIfInBounds_toArray, List.set_cons_zero, List.set_cons_succ]
    refine ah_call (i := 16) (some 46) rfl rfl (by kernel_rfl) rfl (HMO.out _) (ex_call (f := 12) (vs := [.agg CO]) rfl (cfMay _) rfl) ?_
    rintro e u2w ⟨rfl, HQ2⟩
    have Q2 := Q1.trans (HQ2.out.mono Q1.size)
    refine ⟨_, rfl, Q2, ?_⟩
    simp only [Act.put, List.setIfInBounds_toArray, List.set_cons_zero, List.set_cons_succ]
    refine ah_call (i := 18) (some 48) rfl rfl (by kernel_rfl) rfl (HRM.out u2w (sF _ Q2)) (ex_call (f := 13) (vs := [.agg C]) rfl (cfRMay _) rfl) ?_
    rintro e u3w ⟨rfl, HQ3⟩
    have Q3 := Q2.trans (HQ3.out.mono Q2.size)
    refine ⟨_, rfl, Q3, ?_⟩
    simp only [Act.put, List.setIfInBounds_toArray, List.set_cons_zero, List.set_cons_succ]
    refine ah_take (i := 19) (some 49) rfl rfl (by kernel_rfl) (by kernel_rfl) (by kernel_rfl) rfl (fun W _ => ex_bin (c := .bool false) rfl rfl rfl (eg4 _ _ _ _ _ _) (neq4 (mayB K F) _)) Q3 (fun _ _ _ h => h) ?_
    simp only [Act.put, List.setIfInBounds_toArray, List.set_cons_zero, List.set_cons_succ]
    refine ah_take (i := 20) (some 50) rfl rfl (by kernel_rfl) (by kernel_rfl) (by kernel_rfl) rfl (fun W _ => ex_pkF (v := .bool false) rfl rfl rfl) Q3 (fun _ _ _ h => h) ?_
    simp only [Act.put, List.setIfInBounds_toArray, List.set_cons_zero, List.set_cons_succ]
    refine ah_take (i := 21) (some 51) rfl rfl (by kernel_rfl) (by kernel_rfl) (by kernel_rfl) rfl (fun W _ => ex_mv (v := .bool false) rfl rfl) Q3 (fun _ _ _ h => h) ?_
    simp only [Act.put, List.setIfInBounds_toArray, List.set_cons_zero, List.set_cons_succ]
    refine ah_take (i := 22) (some 52) rfl rfl (by kernel_rfl) (by kernel_rfl) (by kernel_rfl) rfl (fun W h => ex_load rfl rfl (tO W h)) Q3 (fun _ _ _ h => h) ?_
    simp only [Act.put, List.setIfInBounds_toArray, List.set_cons_zero, List.set_cons_succ]
    refine ah_take (i := 24) (some 54) rfl rfl (by kernel_rfl) (by kernel_rfl) (by kernel_rfl) rfl (fun W h => ex_load rfl rfl (tC W h)) Q3 (fun _ _ _ h => h) ?_
    simp only [Act.put, List.setIfInBounds_toArray, List.set_cons_zero, List.set_cons_succ]
    refine ah_call (i := 23) (some 53) rfl rfl (by kernel_rfl) rfl (HBO.out u3w (sO _ Q3)) (ex_call (f := 15) (vs := [.agg CO]) rfl (cfBare _) rfl) ?_
    rintro e u4w ⟨G2, rfl, f2, hg2, hp2, HQ4⟩
    have Q4 := Q3.trans (HQ4.out.mono Q3.size)
    refine ⟨_, rfl, Q4, ?_⟩
    simp only [Act.put, List.setIfInBounds_toArray, List.set_cons_zero, List.set_cons_succ]
    have HS2' := fun W (h : Below u4w.heap.size u4w W) (hs : Below ud.heap.size ud W) => HS2.out G2 f2 hp2 W (hg2.out.below h) (sF _ hs)
    generalize (mc K G2).toArray = D2 at *
    refine ah_call (i := 25) (some 55) rfl rfl (by kernel_rfl) rfl (HRB.out _) (ex_call (f := 16) (vs := [.agg C]) rfl (cfRBare _) rfl) ?_
    rintro e u5w ⟨rfl, HQ5⟩
    have Q5 := Q4.trans (HQ5.out.mono Q4.size)
    refine ⟨_, rfl, Q5, ?_⟩
    simp only [Act.put, List.setIfInBounds_toArray, List.set_cons_zero, List.set_cons_succ]
    refine ah_call (i := 26) (some 56) rfl rfl (by kernel_rfl) rfl (HS2' _ HQ5.out Q5) (ex_call (f := 14) (vs := [.agg D2, .agg RB]) rfl (cfSame _) rfl) ?_
    rintro e u6w ⟨rfl, HQ6⟩
    have Q6 := Q5.trans (HQ6.out.mono Q5.size)
    refine ⟨_, rfl, Q6, ?_⟩
    simp only [Act.put, List.setIfInBounds_toArray, List.set_cons_zero, List.set_cons_succ]
    refine ah_take (i := 27) (some 57) rfl rfl (by kernel_rfl) (by kernel_rfl) (by kernel_rfl) rfl (fun W _ => ex_not (r := true) rfl rfl) Q6 (fun _ _ _ h => h) ?_
    simp only [Act.put, List.setIfInBounds_toArray, List.set_cons_zero, List.set_cons_succ]
    refine ah_take (i := 28) (some 58) rfl rfl (by kernel_rfl) (by kernel_rfl) (by kernel_rfl) rfl (fun W _ => ex_pkF (v := .bool false) rfl rfl rfl) Q6 (fun _ _ _ h => h) ?_
    simp only [Act.put, List.setIfInBounds_toArray, List.set_cons_zero, List.set_cons_succ]
    refine ah_take (i := 29) (some 59) rfl rfl (by kernel_rfl) (by kernel_rfl) (by kernel_rfl) rfl (fun W _ => ex_mv (v := .bool false) rfl rfl) Q6 (fun _ _ _ h => h) ?_
    simp only [Act.put, List.setIfInBounds_toArray, List.set_cons_zero, List.set_cons_succ]
    refine ah_take (i := 30) (some 60) rfl rfl (by kernel_rfl) (by kernel_rfl) (by kernel_rfl) rfl (fun W h => ex_load rfl rfl (tO W h)) Q6 (fun _ _ _ h => h) ?_
    simp only [Act.put, List.setIfInBounds_toArray, List.set_cons_zero, List.set_cons_succ]
    refine ah_take (i := 31) (some 61) rfl rfl (by kernel_rfl) (by kernel_rfl) (by kernel_rfl) rfl (fun W h => ex_load rfl rfl (tC W h)) Q6 (fun _ _ _ h => h) ?_
    simp only [Act.put, List.setIfInBounds_toArray, List.set_cons_zero, List.set_cons_succ]
    refine ah_call (i := 32) (some 62) rfl rfl (by kernel_rfl) rfl (HSO.out u6w (sO _ Q6) (sF _ Q6)) (ex_call (f := 14) (vs := [.agg CO, .agg C]) rfl (cfSame _) rfl) ?_
    rintro e u7w ⟨rfl, HQ7⟩
    have Q7 := Q6.trans (HQ7.out.mono Q6.size)
    refine ⟨_, rfl, Q7, ?_⟩
    simp only [Act.put, List.setIfInBounds_toArray, List.set_cons_zero, List.set_cons_succ]
    refine ah_take (i := 33) (some 63) rfl rfl (by kernel_rfl) (by kernel_rfl) (by kernel_rfl) rfl (fun W _ => ex_not (r := true) rfl rfl) Q7 (fun _ _ _ h => h) ?_
    simp only [Act.put, List.setIfInBounds_toArray, List.set_cons_zero, List.set_cons_succ]
    refine ah_take (i := 34) (some 64) rfl rfl (by kernel_rfl) (by kernel_rfl) (by kernel_rfl) rfl (fun W _ => ex_pkF (v := .bool false) rfl rfl rfl) Q7 (fun _ _ _ h => h) ?_
    simp only [Act.put, List.setIfInBounds_toArray, List.set_cons_zero, List.set_cons_succ]
    refine ah_done (by kernel_rfl) ?_
    refine wp_cond_false rfl ?_
    refine wp_skip ?_
    have Yk := Yd.trans (Q7.mono Yd.size)
    have BUk := BU.trans (Yk.mono BU.size)
    refine wp_seq ?_
    refine wp_seq (wp_region_lit ?_)
    refine st_to (some 65) rfl rfl (ex_mv (v := .int .i64 (bothE K F)) rfl rfl) ?_
    simp only [Act.put, List.setIfInBounds_toArray, List.set_cons_zero, List.set_cons_succ]
    cases hm : mayB K F with
    | false =>
      have hE : bothE K F = 1 := by unfold bothE; rw [hm]; rfl
      rw [hE]
      refine st_to (some 66) rfl rfl (ex_bin (c := .bool true) rfl rfl rfl (eg26 _ _ _ _ _ _) (neq26 1 0 _)) ?_
      simp only [Act.put, List.setIfInBounds_toArray, List.set_cons_zero, List.set_cons_succ]
      refine st_end ?_
      refine wp_cond_true rfl ?_
      refine wp_seq (wp_region_lit ?_)
      refine st_to (some 2) rfl rfl (ex_asg (v := .bool true) rfl rfl) ?_
      simp only [Act.put, List.setIfInBounds_toArray, List.set_cons_zero, List.set_cons_succ]
      refine st_end ?_
      refine wp_ret ?_
      refine ret_out ?_
      refine bodyPost_ret (v := .bool true) ?_ rfl ⟨rfl, BUk⟩
      rw [results_tmp Try.results3]
      rfl
    | true =>
      have hE : bothE K F = 0 := by unfold bothE; rw [hm]; rfl
      have hB : bothB K F = encB K F := by unfold bothB; rw [if_pos hm]
      rw [hE]
      rw [hB] at Id1 hl1
      refine st_to (some 66) rfl rfl (ex_bin (c := .bool false) rfl rfl rfl (eg26 _ _ _ _ _ _) (neq26 0 0 _)) ?_
      simp only [Act.put, List.setIfInBounds_toArray, List.set_cons_zero, List.set_cons_succ]
      refine st_end ?_
      refine wp_cond_false rfl ?_
      refine wp_skip ?_
      have HD := wdecode_any ea ec (encB K F) u7w (Id1.below Q7) (by rw [← hl1]; exact hle1) hm1 (enc_bytes hF hG hm).1
      rw [← hl1] at HD
      refine wp_seq (wp_region_lit ?_)
      refine st_to (some 68) rfl rfl (ex_mv (v := .slice ea el ec) rfl rfl) ?_
      simp only [Act.put, List.setIfInBounds_toArray, List.set_cons_zero, List.set_cons_succ]
      refine st_call (some 69) rfl rfl HD (ex_call (f := 17) (vs := [.slice ea el ec]) rfl (cfDecode _) rfl) ?_
      rintro e w10 ⟨K3, G, E3, rfl, fG, hG3, hsay, HB10⟩
      obtain ⟨rfl, hK3, hpl⟩ := says_recs (K := K) (F := F) (dec_enc hF hG hm) (by have := enc_kind K F []; rw [List.append_nil] at this; exact this) hsay
      subst K3
      refine ⟨_, rfl, ?_⟩
      simp only [Act.put, List.setIfInBounds_toArray, List.set_cons_zero, List.set_cons_succ]
      have Z10 := Yk.trans (HB10.out.mono Yk.size)
      have B10 := BUk.trans (HB10.out.mono BUk.size)
      obtain ⟨T4, M4, B4⟩ := lives_msg (w := w10) (K := K) rfl fG
      have HS4 := hide (infoSize K fG)
      have HO4 := hide (oneMsg K G)
      have HS5 := fun W h1 h2 => HS3.out G fG W h1 h2
      rw [sameB_of hpl] at HS5
      obtain ⟨CG, hCG⟩ : ∃ CG, (mc K G).toArray = CG := ⟨_, rfl⟩
      have HCG := hide hCG
      rw [hCG] at T4 M4 B4 HS4 HO4 HS5 ⊢
      rw [HZ.out] at T4 M4 B4
      obtain ⟨W4, hW4⟩ : ∃ W4, (w10.alloc (.cells Z 25)).setCells w10.heap.size 0 CG.toList = W4 := ⟨_, rfl⟩
      rw [hW4] at M4 B4
      clear hCG hsay
      have B11 := B10.trans (B4.mono B10.size)
      have Z11 := Z10.trans (B4.mono Z10.size)
      have lG : ∀ W', Below W4.heap.size W4 W' → (Instr.loadAt 25 (.pointer (some ⟨w10.heap.size, 0, none⟩))).run Try.prog W' = .ok (.agg CG) W' := fun W' h => by rw [← HCG.out]; exact run_loadAt_mid W' _ 0 25 _ _ (M4.below h).range Try.underlying25 rfl (infoLen K fG)
      refine st_to (some 67) rfl rfl (ex_mv (v := .tuple #[.agg CG, .int .i64 0]) rfl rfl) ?_
      simp only [Act.put, List.setIfInBounds_toArray, List.set_cons_zero, List.set_cons_succ]
      refine st_to (some 70) rfl rfl (ex_ext (vs := #[.agg CG, .int .i64 0]) (v := .agg CG) rfl rfl rfl) ?_
      simp only [Act.put, List.setIfInBounds_toArray, List.set_cons_zero, List.set_cons_succ]
      refine st_to (some 71) rfl rfl (ex_ext (vs := #[.agg CG, .int .i64 0]) (v := .int .i64 0) rfl rfl rfl) ?_
      simp only [Act.put, List.setIfInBounds_toArray, List.set_cons_zero, List.set_cons_succ]
      refine st_to (some 8) rfl rfl (HAL.out _ _ _ rfl) ?_
      simp only [Act.put, List.setIfInBounds_toArray, List.set_cons_zero, List.set_cons_succ]
      refine st_store (ty := 25) (x := .tmp 8) (y := .tmp 70) (b := w10.heap.size) (p := 0) (cells := CG) rfl rfl rfl rfl rfl T4 HS4.out HO4.out ?_
      rw [hW4]
      refine st_to (some 5) rfl rfl (ex_asg (v := .int .i64 0) rfl rfl) ?_
      simp only [Act.put, List.setIfInBounds_toArray, List.set_cons_zero, List.set_cons_succ]
      refine st_end ?_
      refine wp_seq (wp_region_lit ?_)
      refine st_to (some 72) rfl rfl (ex_mv (v := .int .i64 0) rfl rfl) ?_
      simp only [Act.put, List.setIfInBounds_toArray, List.set_cons_zero, List.set_cons_succ]
      refine st_to (some 73) rfl rfl (ex_bin (c := .bool true) rfl rfl rfl (eg26 _ _ _ _ _ _) (eq26 0 0 _)) ?_
      simp only [Act.put, List.setIfInBounds_toArray, List.set_cons_zero, List.set_cons_succ]
      refine st_to (some 74) rfl rfl (ex_mv (v := .bool true) rfl rfl) ?_
      simp only [Act.put, List.setIfInBounds_toArray, List.set_cons_zero, List.set_cons_succ]
      refine st_to (some 75) rfl rfl (ex_load rfl rfl (lG _ (Below.refl _ _))) ?_
      simp only [Act.put, List.setIfInBounds_toArray, List.set_cons_zero, List.set_cons_succ]
      refine st_to (some 76) rfl rfl (ex_load rfl rfl (lC _ Z11)) ?_
      simp only [Act.put, List.setIfInBounds_toArray, List.set_cons_zero, List.set_cons_succ]
      refine st_call (some 77) rfl rfl (HS5 W4 (hG3.out.below B4) (hG.below B11)) (ex_call (f := 14) (vs := [.agg CG, .agg C]) rfl (cfSame _) rfl) ?_
      rintro e w12 ⟨rfl, HB12⟩
      refine ⟨_, rfl, ?_⟩
      simp only [Act.put, List.setIfInBounds_toArray, List.set_cons_zero, List.set_cons_succ]
      refine st_to (some 78) rfl rfl (ex_pkT (v := .bool true) rfl rfl rfl) ?_
      simp only [Act.put, List.setIfInBounds_toArray, List.set_cons_zero, List.set_cons_succ]
      refine st_to (some 2) rfl rfl (ex_asg (v := .bool true) rfl rfl) ?_
      simp only [Act.put, List.setIfInBounds_toArray, List.set_cons_zero, List.set_cons_succ]
      refine st_end ?_
      refine wp_ret ?_
      refine bodyPost_ret (v := .bool true) ?_ rfl ⟨rfl, B11.trans (HB12.out.mono B11.size)⟩
      rw [results_tmp Try.results3]
      rfl
  subst hops hQ hS
  refine ah_or2 (i := 0) (j := 4) (by kernel_rfl) ?_ ?_
  · skip
    refine nx_to (i := 0) (some 10) rfl rfl rfl (ex_bytes0 rfl) (sT _ (T0.alloc T0.size _)) ?_
    simp only [Act.put, List.setIfInBounds_toArray, List.set_cons_zero, List.set_cons_succ]
    have T1 := T0.alloc T0.size (.cells #[] 5)
    have O1 := own_new (w := wd) (B := wd.heap.size) (Nat.le_refl _)
    obtain ⟨wa, hwa⟩ : ∃ wa, wd.alloc (.cells #[] 5) = wa := ⟨_, rfl⟩
    have hsa : wa.heap.size = wd.heap.size + 1 := by rw [← hwa]; simp
    rw [hwa] at T1 O1 ⊢
    refine ah_or2 (i := 3) (j := 4) (by kernel_rfl) ?_ ?_
    · skip
      refine nx_app (i := 3) (some 13) rfl rfl rfl (s := .tmp 10) (x := .tmp 12) rfl (B := wd.heap.size) (g := wd.heap.size) rfl O1 rfl rfl (i5 _ (sT _ T1)) g5.2.1 T1.size ?_
      intro pa pc pw po pg
      have Tp : Below wd.heap.size wd pw := T1.grown pg T1.size (fun k hk => by cases hk; exact Nat.le_refl _)
      refine ⟨sT _ Tp, ?_⟩
      simp only [Act.put, List.setIfInBounds_toArray, List.set_cons_zero, List.set_cons_succ]
      refine ah_take (i := 8) (some 18) rfl rfl (by kernel_rfl) (by kernel_rfl) (by kernel_rfl) rfl (fun W _ => ex_fld rfl rfl (fa6 _ W)) (sT _ Tp) (fun _ _ _ h => h) ?_
      simp only [Act.put, List.setIfInBounds_toArray, List.set_cons_zero, List.set_cons_succ]
      refine ah_or1 (i := 4) (by kernel_rfl) ?_
      refine nx_to (i := 4) (some 14) rfl rfl rfl (ex_bytes0 rfl) (sT _ (Tp.alloc Tp.size _)) ?_
      simp only [Act.put, List.setIfInBounds_toArray, List.set_cons_zero, List.set_cons_succ]
      have T3 := Tp.alloc Tp.size (.cells #[] 5)
      have O2 := own_new (w := pw) (B := wd.heap.size) Tp.size
      have P3 := owns_below po (below_alloc pw (.cells #[] 5))
      have hne : ∀ x, pa = some x → l5 ≠ [] → x.block ≠ pw.heap.size := fun x hx hl e => by
        obtain ⟨ao, cap, e1, hI, _⟩ := own_isB po
        cases e1
        subst hx
        have := isB_lt hI hl
        omega
      obtain ⟨wb, hwb⟩ : ∃ wb, pw.alloc (.cells #[] 5) = wb := ⟨_, rfl⟩
      rw [hwb] at T3 O2 P3 ⊢
      refine ah_or1 (i := 7) (by kernel_rfl) ?_
      refine nx_app (i := 7) (some 17) rfl rfl rfl (s := .tmp 14) (x := .tmp 16) rfl (B := wd.heap.size) (g := pw.heap.size) rfl O2 rfl rfl (i11 _ (sT _ T3)) g11.2.1 T3.size ?_
      intro ra rc rw ro rg
      have Tr : Below wd.heap.size wd rw := T3.grown rg T3.size (fun k hk => by cases hk; exact Tp.size)
      refine ⟨sT _ Tr, ?_⟩
      simp only [Act.put, List.setIfInBounds_toArray, List.set_cons_zero, List.set_cons_succ]
      refine ah_L (L' := #[true, true, true, true, true, true, true, true, true, false, false, false]) (by kernel_rfl) ?_
      exact REST _ _ pa ra pc rc rw Tr (row_after P3 rg hne) (fun x hx => own_ge po x hx) ro
    · skip
      refine nx_to (i := 4) (some 14) rfl rfl rfl (ex_bytes0 rfl) (sT _ (T1.alloc T1.size _)) ?_
      simp only [Act.put, List.setIfInBounds_toArray, List.set_cons_zero, List.set_cons_succ]
      have T2 := T1.alloc T1.size (.cells #[] 5)
      have O2 := own_new (w := wa) (B := wd.heap.size) T1.size
      have Oa := owns_below O1 (below_alloc wa (.cells #[] 5))
      have e2 := heap_alloc_new wa (.cells #[] 5)
      obtain ⟨wb, hwb⟩ : ∃ wb, wa.alloc (.cells #[] 5) = wb := ⟨_, rfl⟩
      have hsb : wb.heap.size = wa.heap.size + 1 := by rw [← hwb]; simp
      rw [hwb] at T2 O2 Oa e2 ⊢
      refine ah_or1 (i := 3) (by kernel_rfl) ?_
      refine nx_app (i := 3) (some 13) rfl rfl rfl (s := .tmp 10) (x := .tmp 12) rfl (B := wd.heap.size) (g := wd.heap.size) rfl Oa rfl rfl (i5 _ (sT _ T2)) g5.2.1 T2.size ?_
      intro pa pc pw po pg
      have Tp : Below wd.heap.size wd pw := T2.grown pg T2.size (fun k hk => by cases hk; exact Nat.le_refl _)
      refine ⟨sT _ Tp, ?_⟩
      simp only [Act.put, List.setIfInBounds_toArray, List.set_cons_zero, List.set_cons_succ]
      have k2 : pw.heap[wa.heap.size]? = wb.heap[wa.heap.size]? := pg.block _ (by omega) (by intro e; have := Option.some.inj e; omega)
      have O3 := own_kept O2 k2
      refine ah_take (i := 8) (some 18) rfl rfl (by kernel_rfl) (by kernel_rfl) (by kernel_rfl) rfl (fun W _ => ex_fld rfl rfl (fa6 _ W)) (sT _ Tp) (fun _ _ _ h => h) ?_
      simp only [Act.put, List.setIfInBounds_toArray, List.set_cons_zero, List.set_cons_succ]
      refine ah_or1 (i := 7) (by kernel_rfl) ?_
      refine nx_app (i := 7) (some 17) rfl rfl rfl (s := .tmp 14) (x := .tmp 16) rfl (B := wd.heap.size) (g := wa.heap.size) rfl O3 rfl rfl (i11 _ (sT _ Tp)) g11.2.1 Tp.size ?_
      intro ra rc rw ro rg
      have Tr : Below wd.heap.size wd rw := Tp.grown rg Tp.size (fun k hk => by cases hk; exact T1.size)
      refine ⟨sT _ Tr, ?_⟩
      simp only [Act.put, List.setIfInBounds_toArray, List.set_cons_zero, List.set_cons_succ]
      refine ah_L (L' := #[true, true, true, true, true, true, true, true, true, false, false, false]) (by kernel_rfl) ?_
      exact REST _ _ pa ra pc rc rw Tr (row_after po rg (fun x hx hl => own_ne po rfl hl (by rw [k2]; exact e2) x hx)) (fun x hx => own_ge po x hx) ro
  · skip
    refine nx_to (i := 4) (some 14) rfl rfl rfl (ex_bytes0 rfl) (sT _ (T0.alloc T0.size _)) ?_
    simp only [Act.put, List.setIfInBounds_toArray, List.set_cons_zero, List.set_cons_succ]
    have T1 := T0.alloc T0.size (.cells #[] 5)
    have O2 := own_new (w := wd) (B := wd.heap.size) (Nat.le_refl _)
    have e1 := heap_alloc_new wd (.cells #[] 5)
    obtain ⟨wa, hwa⟩ : ∃ wa, wd.alloc (.cells #[] 5) = wa := ⟨_, rfl⟩
    have hsa : wa.heap.size = wd.heap.size + 1 := by rw [← hwa]; simp
    rw [hwa] at T1 O2 e1 ⊢
    refine ah_or1 (i := 0) (by kernel_rfl) ?_
    refine nx_to (i := 0) (some 10) rfl rfl rfl (ex_bytes0 rfl) (sT _ (T1.alloc T1.size _)) ?_
    simp only [Act.put, List.setIfInBounds_toArray, List.set_cons_zero, List.set_cons_succ]
    have T2 := T1.alloc T1.size (.cells #[] 5)
    have O1 := own_new (w := wa) (B := wd.heap.size) T1.size
    have Ob := owns_below O2 (below_alloc wa (.cells #[] 5))
    have e2 : (wa.alloc (.cells #[] 5)).heap[wd.heap.size]? = wa.heap[wd.heap.size]? := (below_alloc wa (.cells #[] 5)).block _ (by omega)
    obtain ⟨wb, hwb⟩ : ∃ wb, wa.alloc (.cells #[] 5) = wb := ⟨_, rfl⟩
    have hsb : wb.heap.size = wa.heap.size + 1 := by rw [← hwb]; simp
    rw [hwb] at T2 O1 Ob e2 ⊢
    refine ah_or1 (i := 3) (by kernel_rfl) ?_
    refine nx_app (i := 3) (some 13) rfl rfl rfl (s := .tmp 10) (x := .tmp 12) rfl (B := wd.heap.size) (g := wa.heap.size) rfl O1 rfl rfl (i5 _ (sT _ T2)) g5.2.1 T2.size ?_
    intro pa pc pw po pg
    have Tp : Below wd.heap.size wd pw := T2.grown pg T2.size (fun k hk => by cases hk; exact T1.size)
    refine ⟨sT _ Tp, ?_⟩
    simp only [Act.put, List.setIfInBounds_toArray, List.set_cons_zero, List.set_cons_succ]
    have k2 : pw.heap[wd.heap.size]? = wb.heap[wd.heap.size]? := pg.block _ (by omega) (by intro e; have := Option.some.inj e; omega)
    have O3 := own_kept Ob k2
    refine ah_take (i := 8) (some 18) rfl rfl (by kernel_rfl) (by kernel_rfl) (by kernel_rfl) rfl (fun W _ => ex_fld rfl rfl (fa6 _ W)) (sT _ Tp) (fun _ _ _ h => h) ?_
    simp only [Act.put, List.setIfInBounds_toArray, List.set_cons_zero, List.set_cons_succ]
    refine ah_or1 (i := 7) (by kernel_rfl) ?_
    refine nx_app (i := 7) (some 17) rfl rfl rfl (s := .tmp 14) (x := .tmp 16) rfl (B := wd.heap.size) (g := wd.heap.size) rfl O3 rfl rfl (i11 _ (sT _ Tp)) g11.2.1 Tp.size ?_
    intro ra rc rw ro rg
    have Tr : Below wd.heap.size wd rw := Tp.grown rg Tp.size (fun k hk => by cases hk; exact Nat.le_refl _)
    refine ⟨sT _ Tr, ?_⟩
    simp only [Act.put, List.setIfInBounds_toArray, List.set_cons_zero, List.set_cons_succ]
    refine ah_L (L' := #[true, true, true, true, true, true, true, true, true, false, false, false]) (by kernel_rfl) ?_
    exact REST _ _ pa ra pc rc rw Tr (row_after po rg (fun x hx hl => own_ne po rfl hl (by rw [k2, e2]; exact e1) x hx)) (fun x hx => own_ge po x hx) ro

theorem walk (K : Int) (F : Nat → Fld) (w : World) (w0 : Fits F ∧ Good w F ∧ ∀ n, F 2 = .num n → n ≤ 9223372036854775807) :
    Calls Try.prog 3 #[.agg (mc K F).toArray] w fun e w' => e = .returned (.bool true) ∧ Below w.heap.size w w' := walk_any K F w w0.1 w0.2.1 w0.2.2

theorem own : ownKnob Try.prog.godebug = none := by kernel_rfl
theorem laidOut : laidOutB Try.prog = true := by kernel_rfl

set_option maxRecDepth 100000 in
theorem lifted (os : Os) (started : os.Started) (H : Type) (enc : TypeId × Value → H) :
    ReturnsInHanded {} Try.checked os 3 .any (Rows.wireEncodesSpec.pre6 enc Try.prog Try.f3 Rows.wireEncodesRow.domain false) (Rows.wireEncodesSpec.post enc Try.prog Try.f3 false true false false) := by
  refine returnsInHanded_of_change_sized (C := Try.checked) own started (by kernel_rfl) Try.func3
    (ChangeSpec.witness6 (enc := enc) (C := Try.checked) false ⟨#[], #[.agg (mc 0 ZF).toArray], []⟩ 8 (by kernel_rfl) (by kernel_rfl) (by kernel_rfl) (by kernel_rfl)) ?_
  intro W base args ds gs before hval0 hW hcnd hsz0 _
  have hsz : (DataW.weightsEach Try.prog (Try.f3.params.toList ++ Rows.wireEncodesSpec.plain.varTypes Try.prog) (ds ++ gs)).all (· ≤ reachBytes) = true := hsz0
  have hval : ∀ (j : Nat) t v, Try.f3.params[j]? = some t → args[j]? = some v → Value.okWide Try.prog W .any base t v := hval0
  have hW' := hW
  obtain ⟨p, q, hA0, hV, rfl, hfz, hnd⟩ := hW
  have hA : DataW.TrodAll enc Try.prog W 0 (fun _ => true) true Try.f3.params.toList args.toList ds p := hA0
  rw [Try.params3] at hA hval hsz
  obtain ⟨v0, vs0, d0, ds0, p0, q0, hargs, rfl, rfl, h0, r0⟩ := trodAll_cons hA
  obtain ⟨rfl, rfl, rfl⟩ := trodAll_nil r0
  obtain rfl : args = #[v0] := by cases args; simp_all
  obtain ⟨rfl, rfl⟩ := trodVars_none hV
  have k0 := h0
  have lt0 : ∀ x ∈ p0, x.block < W.heap.size := by obtain ⟨m, hm⟩ := k0; exact DataW.trod_lt m _ _ _ hm
  obtain ⟨cs0, rfl, hcl0⟩ := okWide_struct Try.underlying25 (hval 0 25 v0 rfl rfl)
  obtain ⟨K0, F0, e0, w0⟩ : ∃ K F, cs0 = (mc K F).toArray ∧ Fits F ∧ Good W F ∧ ∀ n, F 2 = .num n → n ≤ 9223372036854775807 := by
    obtain ⟨fuel, hf⟩ := h0
    obtain ⟨K, F, h1, h2⟩ := open_msg hf (fun m hm => by
      have := List.all_eq_true.1 hsz _ (DataW.weights_mem_each (j := 0) (t := 25) rfl rfl m hm)
      simpa using this)
    exact ⟨K, F, by rw [← h1]; rfl, h2⟩
  subst e0
  clear hA0 hval0 hsz0 hsz
  refine (walk K0 F0 W w0).mono fun e W' ⟨he, bel⟩ => ?_
  subst he
  exact ⟨_, rfl, _, _, _, [], _, [], hW', trodAll_mk1 (shut_bool Try.underlying4 _), (trodAll_cons_mk (Below.trod laidOut (by kernel_rfl) (of_decide_eq_true (by kernel_rfl)) k0 bel lt0) trodAll_mk0), rfl, bel.frame _, fun h => by cases h⟩

theorem over : Rows.wireEncodesRow.holds Try.pinned (OpenSpec.ofChange Rows.wireEncodesSpec) :=
  OpenClaim.holds_of_wide 3 Try.f3 rfl rfl rfl rfl rfl rfl rfl ⟨rfl, rfl, rfl, rfl, rfl⟩ rfl rfl rfl rfl rfl (by kernel_rfl) Try.func3 (by kernel_rfl)
    (of_decide_eq_true (by kernel_rfl)) (by unfold Func.isWrapper; first | (rw [if_pos (by decide +kernel)]; kernel_rfl) | (rw [if_neg (by decide +kernel)]; exact ⟨rfl, rfl⟩))
    (fun os started H enc _ => lifted os started H enc)

theorem proved : Rows.WireEncodesSaid := over
end Go.Proofs.Ytcbadmkgbaffpaa.wireEncodes
namespace Go.Proofs.Ytcbadmkgbaffpaa
theorem wireEncodes_holds : Rows.WireEncodesSaid := wireEncodes.proved
end Go.Proofs.Ytcbadmkgbaffpaa
