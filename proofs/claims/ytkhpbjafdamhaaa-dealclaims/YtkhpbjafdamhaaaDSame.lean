/- Are transactions the same? Where they are. -/
import Derived.Test.YtkhpbjafdamhaaaDRef
namespace Go.Proofs.Ytkhpbjafdamhaaa
open Go.RowKit
set_option linter.unusedVariables false
set_option linter.unusedSimpArgs false
set_option maxRecDepth 100000

/-- a value of type t is itself, for those that compare -/
def Refl (t : TypeId) (d : Nat) (v : Value) : Prop := ∀ W, (Op.equalIn d t v v).run Try.prog W = .ok true W
theorem refl3 (d : Nat) (n : Int) : Refl 3 (d + 1) (.int .i64 n) := fun W => by rw [run_equalIn_int W d 3 .i64 .i64 n n Try.underlying3]; simp
theorem refl4 (d : Nat) (b : Bool) : Refl 4 (d + 1) (.bool b) := fun W => by rw [run_equalIn_bool' W d 4 b b Try.underlying4]; simp
theorem refl22 (d : Nat) (l : List Int) (h : l.length = 32) : Refl 22 (d + 2) (.agg (U8 l).toArray) := fun W => by rw [eq_arrays d W l l h h]; simp
theorem part1 {t : TypeId} {xs : Array Value} {o : Nat} {v : Value} {d : TypeDesc} (ht : Try.prog.underlying t = some d) (hd : (match d with | .struct _ | .array _ _ => true | _ => false) = false) (hv : xs[o]? = some v) (W : World) : (part t xs o).run Try.prog W = .ok v W := by
  simp only [part, isAgg, Sem.run_bind, run_underlying ht, Result.andThen_ok]
  cases d <;> simp_all
theorem partN {t : TypeId} {xs ys : Array Value} {o n : Nat} {d : TypeDesc} (ht : Try.prog.underlying t = some d) (hd : (match d with | .struct _ | .array _ _ => true | _ => false) = true) (hi : (Try.prog.info? t).map (·.size) = some n) (hv : xs.extract o (o + n) = ys) (W : World) : (part t xs o).run Try.prog W = .ok (.agg ys) W := by
  have hsz : (sizeOf t).run Try.prog W = .ok n W := by
    cases hq : Try.prog.info? t with
    | none => rw [hq] at hi; cases hi
    | some i => rw [hq] at hi; simp at hi; simp [sizeOf, typeInfo, hq, hi]
  simp only [part, isAgg, Sem.run_bind, run_underlying ht, Result.andThen_ok]
  cases d <;> simp_all
theorem eqf_all (d : Nat) (xs : Array Value) : ∀ fs : List Field, (∀ f ∈ fs, ∃ a, (∀ W, (part f.type xs f.offset).run Try.prog W = .ok a W) ∧ Refl f.type d a) → ∀ W, (Op.eqFields d xs xs fs).run Try.prog W = .ok true W
  | [], _, W => by simp [Op.eqFields]
  | f :: fs, h, W => by
    have ih := eqf_all d xs fs (fun g hg => h g (List.mem_cons_of_mem _ hg)) W; obtain ⟨a, h1, h2⟩ := h f (List.mem_cons_self ..)
    unfold Op.eqFields
    split
    · simp only [Sem.run_bind, h1 W, Result.andThen_ok, h2 W, Bool.not_true, Bool.false_eq_true, if_false]
      exact ih
    · exact ih
theorem refl_struct {t : TypeId} {d : Nat} {xs : Array Value} {L : List (TypeId × Nat)} (ht : Try.prog.underlying t = some (.struct (Try.prog.fieldsOf t))) (hp : Try.prog.stoodInHeld t = false) (hL : (Try.prog.fieldsOf t).toList.map (fun f => (f.type, f.offset)) = L) (h : ∀ p ∈ L, ∃ a, (∀ W, (part p.1 xs p.2).run Try.prog W = .ok a W) ∧ Refl p.1 d a) : Refl t (d + 1) (.agg xs) := fun W => by
  rw [run_equalIn_struct W d t xs xs ht hp]; exact eqf_all d xs _ (fun f hf => h (f.type, f.offset) (by rw [← hL]; exact List.mem_map.2 ⟨f, hf, rfl⟩)) W
theorem neq_refl {t : TypeId} {xs : Array Value} (h : Refl t 10000 (.agg xs)) (W : World) : (binOp .neq t (.agg xs) (.agg xs)).run Try.prog W = .ok (.bool false) W := by
  rw [run_neq_struct, h W]
  rfl
theorem egN (t : TypeId) (hm : Try.prog.eqGuardType Try.prog.depth t = false) (x y : Operand) (u v : Array Value) (W : World) : (eqGuard .neq t x y (.agg u) (.agg v)).run Try.prog W = .ok () W := run_eqGuard_agg W .neq t x y u v hm
theorem eg66 (x y : Operand) (u v : Array Value) (W : World) : (eqGuard .neq 66 x y (.agg u) (.agg v)).run Try.prog W = .ok () W := egN 66 (by kernel_rfl) x y u v W
theorem eg61 (x y : Operand) (u v : Array Value) (W : World) : (eqGuard .neq 61 x y (.agg u) (.agg v)).run Try.prog W = .ok () W := egN 61 (by kernel_rfl) x y u v W
theorem refl66 (a b h d : Int) (two : Bool) {l : List Int} (hl : l.length = 32) : Refl 66 10000 (.agg (pth a b two h d (U8 l).toArray)) :=
  refl_struct (d := 9999) (L := [(3, 0), (3, 1), (4, 2), (3, 3), (3, 4), (22, 5)]) (by kernel_rfl) (by kernel_rfl) (by kernel_rfl) fun p hp => by
    have hx : (pth a b two h d (U8 l).toArray).extract 5 (5 + 32) = (U8 l).toArray := by
      have hs := U8_size l hl
      unfold pth
      apply Array.ext
      · simp [U8, hl]
      · intro i h1 h2; simp
    simp only [List.mem_cons, List.mem_nil_iff, or_false] at hp
    rcases hp with rfl | rfl | rfl | rfl | rfl | rfl
    · exact ⟨_, part1 Try.underlying3 rfl (pth_c0 _ _ _ _ _ _), refl3 9998 _⟩
    · exact ⟨_, part1 Try.underlying3 rfl (pth_c1 _ _ _ _ _ _), refl3 9998 _⟩
    · exact ⟨_, part1 Try.underlying4 rfl (pth_c2 _ _ _ _ _ _), refl4 9998 _⟩
    · exact ⟨_, part1 Try.underlying3 rfl (pth_c3 _ _ _ _ _ _), refl3 9998 _⟩
    · exact ⟨_, part1 Try.underlying3 rfl (pth_c4 _ _ _ _ _ _), refl3 9998 _⟩
    · exact ⟨_, partN Try.underlying22 rfl inf22 hx, refl22 9997 l hl⟩
/-- cells that are an input -/
structure IsI (C : Array Value) : Prop where
  size : C.size = 130
  one : C.all (·.oneCell') = true
  self : Refl 61 10000 (.agg C)
theorem u8cut {A B C : List Value} {o n : Nat} (hA : A.length = o) (hB : B.length = n) : ((A ++ B ++ C).toArray).extract o (o + n) = B.toArray := by
  subst hA hB; rw [List.extract_toArray, List.extract_eq_take_drop]
  congr 1
  rw [List.append_assoc, List.drop_left, Nat.add_sub_cancel_left, List.take_left]
theorem IsI.of (fo p : Int) {l0 l1 l2 l3 : List Int} (h0 : l0.length = 32) (h1 : l1.length = 32) (h2 : l2.length = 32) (h3 : l3.length = 32) : IsI ((U8 l0 ++ [Value.int .i64 fo]) ++ [Value.int .i64 p] ++ U8 l1 ++ U8 l2 ++ U8 l3).toArray := by
  have e0 : (U8 l0).length = 32 := by simp [U8, h0]
  have e1 : (U8 l1).length = 32 := by simp [U8, h1]
  have e2 : (U8 l2).length = 32 := by simp [U8, h2]
  have e3 : (U8 l3).length = 32 := by simp [U8, h3]
  have s24 : Refl 24 9999 (.agg (U8 l0 ++ [Value.int .i64 fo]).toArray) := refl_struct (d := 9998) (L := [(22, 0), (3, 32)]) (by kernel_rfl) (by kernel_rfl) (by kernel_rfl) fun q hq => by
    simp only [List.mem_cons, List.mem_nil_iff, or_false] at hq
    rcases hq with rfl | rfl
    · exact ⟨_, partN Try.underlying22 rfl inf22 (u8cut (A := []) (B := U8 l0) (C := [Value.int .i64 fo]) rfl e0), refl22 9996 l0 h0⟩
    · exact ⟨_, part1 Try.underlying3 rfl (by rw [List.getElem?_toArray, List.getElem?_append_right (by omega), e0]; rfl), refl3 9997 fo⟩
  refine ⟨by simp [e0, e1, e2, e3], ?_, ?_⟩
  · rw [List.all_toArray]
    simp [U8, Value.oneCell']
  · refine refl_struct (d := 9999) (L := [(24, 0), (3, 33), (22, 34), (22, 66), (22, 98)]) (by kernel_rfl) (by kernel_rfl) (by kernel_rfl) fun q hq => ?_
    simp only [List.mem_cons, List.mem_nil_iff, or_false] at hq
    rcases hq with rfl | rfl | rfl | rfl | rfl
    · refine ⟨_, partN Try.underlying24 rfl inf24 ?_, s24⟩
      have := u8cut (A := []) (B := U8 l0 ++ [Value.int .i64 fo]) (C := [Value.int .i64 p] ++ U8 l1 ++ U8 l2 ++ U8 l3) (o := 0) (n := 33) rfl (by simp [e0])
      simpa using this
    · exact ⟨_, part1 Try.underlying3 rfl (by rw [List.getElem?_toArray]; simp [List.getElem?_append, e0]), refl3 9998 p⟩
    · refine ⟨_, partN Try.underlying22 rfl inf22 ?_, refl22 9997 l1 h1⟩
      have := u8cut (A := (U8 l0 ++ [Value.int .i64 fo]) ++ [Value.int .i64 p]) (B := U8 l1) (C := U8 l2 ++ U8 l3) (o := 34) (n := 32) (by simp [e0]) e1
      simpa using this
    · refine ⟨_, partN Try.underlying22 rfl inf22 ?_, refl22 9997 l2 h2⟩
      have := u8cut (A := (U8 l0 ++ [Value.int .i64 fo]) ++ [Value.int .i64 p] ++ U8 l1) (B := U8 l2) (C := U8 l3) (o := 66) (n := 32) (by simp [e0, e1]) e2
      simpa using this
    · refine ⟨_, partN Try.underlying22 rfl inf22 ?_, refl22 9997 l3 h3⟩
      have := u8cut (A := (U8 l0 ++ [Value.int .i64 fo]) ++ [Value.int .i64 p] ++ U8 l1 ++ U8 l2) (B := U8 l3) (C := []) (o := 98) (n := 32) (by simp [e0, e1, e2]) e3
      simpa using this
/-- the paths of an output, each of which is itself -/
structure SelfPs (P : Array Value) (l : Nat) : Prop where
  size : P.size = l * 37
  each : ∀ k, k < l → Refl 66 10000 (.agg (P.extract (k * 37) (k * 37 + 37)))
/-- where the paths of two outputs lie -/
def Two (W : World) (P : Array Value) (l : Nat) (p q : Option Addr) : Prop := l = 0 ∨ ∃ g g', p = some ⟨g, 0, none⟩ ∧ q = some ⟨g', 0, none⟩ ∧ W.heap[g]? = some (.cells P 66) ∧ W.heap[g']? = some (.cells P 66)
theorem part_kept {w W : World} {b : Nat} {o : Obj} (h : Kept Nil w W) (hb : w.heap[b]? = some o) : W.heap[b]? = some o := keepK h hb (nilN _)
theorem ld46 {W : World} {b o : Nat} {u v : Value} (h1 : W.cell? ⟨b, o, none⟩ = some u) (h2 : W.cell? ⟨b, o + 1, none⟩ = some v) : (Instr.loadAt 46 (.pointer (some ⟨b, o, none⟩))).run Try.prog W = .ok (.agg #[u, v]) W :=
  ld_range (C := #[u, v]) (fun j w hw => by
    match j with
    | 0 => have : u = w := by simpa using hw
           rw [← this]; exact h1
    | 1 => have : v = w := by simpa using hw
           rw [← this]; exact h2
    | j + 2 => simp at hw) Try.underlying46 rfl inf46
theorem ex_ix31 {o : Oper} {a : Act} {W : World} {x y : Operand} {b n c k : Nat} (ho : o.op = .indexAddr 31 x y) (hx : a.eval x = .slice (some ⟨b, 0, none⟩) n c) (hy : a.eval y = .int .i64 k) (hk : k < n) : (execOp a.eval o).run Try.prog W = .ok (.value (.pointer (some ⟨b, k * 130, none⟩))) W := by
  have h1 : (k : Int) < (n : Int) := by omega
  unfold execOp
  simp only [ho, hx, hy]
  go_simp
set_option maxHeartbeats 4000000 in
theorem sameout_ok {x : Int} {l c c' : Nat} {p q : Option Addr} {P : Array Value} (w : World) (hl : l ≤ 64) (hP : SelfPs P l) (hT : Two w P l p q) :
    Calls Try.prog 18 #[.agg #[.int .i64 x, .slice p l c], .agg #[.int .i64 x, .slice q l c']] w fun e w' => e = .returned (.bool true) ∧ Below w.heap.size w w' := by
  have E : Below w.heap.size w w := Below.refl _ _
  go_enter Try.func18, Try.ntmps18; refine wq fun Q hQ => ?_; refine st_new (fun b => .pointer (some ⟨b, 0, none⟩)) (some 2) rfl rfl (ex_box rfl rfl) ?_; intro b1 W1 k1 g1 B; simp only [zp]; have ge_b1 := Nat.le_trans E.size g1; replace E := below_next E B; clear B; refine st_new (fun b => .pointer (some ⟨b, 0, none⟩)) (some 3) rfl rfl (ex_box rfl rfl) ?_; intro b2 W2 k2 g2 B; simp only [zp]
  have ne_b2_b1 : b2 ≠ b1 := fun e => by have := lt_of k1; omega
  have ge_b2 := Nat.le_trans E.size g2; replace E := below_next E B; replace k1 := keep B k1; clear B; refine sg (.bool false) 4 rfl rfl rfl rfl ?_; simp only [zp]; refine st_end ?_; subst hQ; refine wp_seq ?_; refine wq fun Q hQ => ?_; refine sv (.pointer (some ⟨b1, 0, none⟩)) 6 rfl rfl (ex_fa (p := (.pointer (some ⟨b1, 0, none⟩))) rfl rfl (fa46_0 _ _)) ?_; simp only [zp]; refine sv (.int .i64 x) 7 rfl rfl (ex_load (p := (.pointer (some ⟨b1, 0, none⟩))) rfl rfl (ld3 (at_cell k1 rfl))) ?_; simp only [zp]
  refine sv (.pointer (some ⟨b2, 0, none⟩)) 8 rfl rfl (ex_fa (p := (.pointer (some ⟨b2, 0, none⟩))) rfl rfl (fa46_0 _ _)) ?_; simp only [zp]; refine sv (.int .i64 x) 9 rfl rfl (ex_load (p := (.pointer (some ⟨b2, 0, none⟩))) rfl rfl (ld3 (at_cell k2 rfl))) ?_; simp only [zp]; refine sv (.bool false) 10 rfl rfl (ex_bin (u := (.int .i64 x)) (r := (.int .i64 x)) rfl rfl rfl (eg3 _ _ _ _ _ _) (neq3 _ (decide_eq_false (fun e => e rfl)))) ?_; simp only [zp]; refine sm (.bool false) 11 rfl rfl rfl rfl ?_; simp only [zp]
  refine sv (.pointer (some ⟨b1, 1, none⟩)) 12 rfl rfl (ex_fa (p := (.pointer (some ⟨b1, 0, none⟩))) rfl rfl (fa46_1 _ _)) ?_; simp only [zp]; refine sv (.slice p l c) 13 rfl rfl (ex_load (p := (.pointer (some ⟨b1, 1, none⟩))) rfl rfl (ld44 (at_cell k1 rfl))) ?_; simp only [zp]; refine sv (.int .i64 (l : Nat)) 14 rfl rfl (ex_len rfl rfl (len44 _ _ _ _ _)) ?_; simp only [zp]; refine sv (.pointer (some ⟨b2, 1, none⟩)) 15 rfl rfl (ex_fa (p := (.pointer (some ⟨b2, 0, none⟩))) rfl rfl (fa46_1 _ _)) ?_; simp only [zp]
  refine sv (.slice q l c') 16 rfl rfl (ex_load (p := (.pointer (some ⟨b2, 1, none⟩))) rfl rfl (ld44 (at_cell k2 rfl))) ?_; simp only [zp]; refine sv (.int .i64 (l : Nat)) 17 rfl rfl (ex_len rfl rfl (len44 _ _ _ _ _)) ?_; simp only [zp]; refine sv (.bool false) 18 rfl rfl (ex_bin (u := (.int .i64 (l : Nat))) (r := (.int .i64 (l : Nat))) rfl rfl rfl (eg3 _ _ _ _ _ _) (neq3 _ (decide_eq_false (fun e => e rfl)))) ?_; simp only [zp]; refine sv (.bool false) 19 rfl rfl (ex_pkF rfl rfl rfl) ?_; simp only [zp]; refine st_end ?_; subst hQ; refine wp_cond_false rfl ?_; refine wp_skip ?_
  refine wp_seq ?_; refine wq fun Q hQ => ?_; refine sg (.int .i64 0) 5 rfl rfl rfl rfl ?_; simp only [zp]; refine st_end ?_; subst hQ; refine wp_block ?_
  go_loopw [5] (fun v5 wr => ∃ i : Nat, i ≤ l ∧ v5 = .int .i64 i ∧ Below w.heap.size w wr ∧ wr.heap[b1]? = some (.cells #[.int .i64 x, .slice p l c] 46) ∧ wr.heap[b2]? = some (.cells #[.int .i64 x, .slice q l c'] 46)) (fun v5 _ => l - (intOf v5).toNat)
  case atStart => exact ⟨0, Nat.zero_le _, rfl, E, k1, k2⟩
  case round =>
    clear E k1 k2; obtain ⟨i, hi, rfl, E, k1, k2⟩ := hrel
    by_cases hlt : i < l
    · rcases hT with hh | ⟨g, g', rfl, rfl, kg, kg'⟩
      · omega
      replace kg := (E.block g (lt_of kg)).trans kg; replace kg' := (E.block g' (lt_of kg')).trans kg'; refine wp_seq ?_; refine wq fun Q hQ => ?_; refine sm (.int .i64 (i : Nat)) 20 rfl rfl rfl rfl ?_; simp only [zp]; refine sv (.pointer (some ⟨b1, 1, none⟩)) 21 rfl rfl (ex_fa (p := (.pointer (some ⟨b1, 0, none⟩))) rfl rfl (fa46_1 _ _)) ?_; simp only [zp]; refine sv (.slice (some ⟨g, 0, none⟩) l c) 22 rfl rfl (ex_load (p := (.pointer (some ⟨b1, 1, none⟩))) rfl rfl (ld44 (at_cell k1 rfl))) ?_; simp only [zp]
      refine sv (.int .i64 (l : Nat)) 23 rfl rfl (ex_len rfl rfl (len44 _ _ _ _ _)) ?_; simp only [zp]; refine sv (.bool true) 24 rfl rfl (ex_bin (u := (.int .i64 (i : Nat))) (r := (.int .i64 (l : Nat))) rfl rfl rfl (eg3 _ _ _ _ _ _) (lss3 _ (decide_eq_true (by omega)))) ?_; simp only [zp]; refine st_end ?_; subst hQ; refine wp_cond_true rfl ?_; refine wp_skip ?_; refine wp_seq ?_; refine wp_block ?_; refine wp_seq ?_; obtain ⟨W3, hwd⟩ : ∃ wd, wr.drew = wd := ⟨_, rfl⟩; refine wp_region_held (S := fun W => Kept Nil W3 W) (by kernel_rfl) ?_
      show wpAnyH _ _ _ _ _ _ _ _ wr.drew
      rw [hwd]; refine capQ fun Q hQ => ?_
      have hQP : ∀ c (a : Act) (d : Nat) v w, Q (.panic c) (a.put (some d) v) w → Q (.panic c) a w := by
        subst hQ; exact fun _ _ _ _ _ h => h
      have BD : Below wr.heap.size wr W3 := by rw [← hwd]; exact below_drew (Below.refl _ _)
      clear hwd; replace E := below_next E BD; replace k1 := keep BD k1; replace k2 := keep BD k2; replace kg := keep BD kg; replace kg' := keep BD kg'; clear BD
      have S : Kept Nil W3 W3 := Kept.refl _ _
      have d_k1 := k1; have d_k2 := k2; have d_kg := kg
      have d_kg' := kg'
      refine ah_take (v := (.pointer (some ⟨b1, 1, none⟩))) (i := 0) (some 27) rfl rfl (by kernel_rfl) (by kernel_rfl) (by kernel_rfl) rfl (fun W hK => ex_fa (p := (.pointer (some ⟨b1, 0, none⟩))) rfl rfl (fa46_1 _ _)) S (fun c a w h => hQP c a _ _ w h) ?_; simp only [zp]; refine ah_take (v := (.slice (some ⟨g, 0, none⟩) l c)) (i := 1) (some 28) rfl rfl (by kernel_rfl) (by kernel_rfl) (by kernel_rfl) rfl (fun W hK => ex_load (p := (.pointer (some ⟨b1, 1, none⟩))) rfl rfl (ld44 (at_cell (keepK hK d_k1 (nilN _)) rfl))) S (fun c a w h => hQP c a _ _ w h) ?_; simp only [zp]
      refine ah_take (v := (.int .i64 (i : Nat))) (i := 2) (some 29) rfl rfl (by kernel_rfl) (by kernel_rfl) (by kernel_rfl) rfl (fun W hK => ex_mv rfl rfl) S (fun c a w h => hQP c a _ _ w h) ?_; simp only [zp]; refine ah_take (v := (.pointer (some ⟨g, (i * 37), none⟩))) (i := 3) (some 30) rfl rfl (by kernel_rfl) (by kernel_rfl) (by kernel_rfl) rfl (fun W hK => ex_ix44 rfl rfl rfl hlt) S (fun c a w h => hQP c a _ _ w h) ?_; simp only [zp]
      refine ah_take (v := (.agg (P.extract (i * 37) (i * 37 + 37)))) (i := 4) (some 31) rfl rfl (by kernel_rfl) (by kernel_rfl) (by kernel_rfl) rfl (fun W hK => ex_load rfl rfl (ld_part (part_kept hK d_kg) (by rw [hP.size]; omega) Try.underlying66 rfl inf66)) S (fun c a w h => hQP c a _ _ w h) ?_; simp only [zp]; refine ah_take (v := (.pointer (some ⟨b2, 1, none⟩))) (i := 5) (some 32) rfl rfl (by kernel_rfl) (by kernel_rfl) (by kernel_rfl) rfl (fun W hK => ex_fa (p := (.pointer (some ⟨b2, 0, none⟩))) rfl rfl (fa46_1 _ _)) S (fun c a w h => hQP c a _ _ w h) ?_; simp only [zp]
      refine ah_take (v := (.slice (some ⟨g', 0, none⟩) l c')) (i := 6) (some 33) rfl rfl (by kernel_rfl) (by kernel_rfl) (by kernel_rfl) rfl (fun W hK => ex_load (p := (.pointer (some ⟨b2, 1, none⟩))) rfl rfl (ld44 (at_cell (keepK hK d_k2 (nilN _)) rfl))) S (fun c a w h => hQP c a _ _ w h) ?_; simp only [zp]; refine ah_take (v := (.int .i64 (i : Nat))) (i := 7) (some 34) rfl rfl (by kernel_rfl) (by kernel_rfl) (by kernel_rfl) rfl (fun W hK => ex_mv rfl rfl) S (fun c a w h => hQP c a _ _ w h) ?_; simp only [zp]
      refine ah_take (v := (.pointer (some ⟨g', (i * 37), none⟩))) (i := 8) (some 35) rfl rfl (by kernel_rfl) (by kernel_rfl) (by kernel_rfl) rfl (fun W hK => ex_ix44 rfl rfl rfl hlt) S (fun c a w h => hQP c a _ _ w h) ?_; simp only [zp]; refine ah_take (v := (.agg (P.extract (i * 37) (i * 37 + 37)))) (i := 9) (some 36) rfl rfl (by kernel_rfl) (by kernel_rfl) (by kernel_rfl) rfl (fun W hK => ex_load rfl rfl (ld_part (part_kept hK d_kg') (by rw [hP.size]; omega) Try.underlying66 rfl inf66)) S (fun c a w h => hQP c a _ _ w h) ?_; simp only [zp]
      refine ah_take (v := (.bool false)) (i := 10) (some 37) rfl rfl (by kernel_rfl) (by kernel_rfl) (by kernel_rfl) rfl (fun W hK => ex_bin rfl rfl rfl (eg66 _ _ _ _ _) (neq_refl (hP.each i hlt) _)) S (fun c a w h => hQP c a _ _ w h) ?_; simp only [zp]; refine ah_done (by kernel_rfl) ?_; clear hQP; subst hQ; clear S d_k1 d_k2 d_kg d_kg'; refine wp_cond_false rfl ?_; refine wp_skip ?_; refine wl_in (wl_cap fun Q hQ => ?_); refine sm (.int .i64 (i : Nat)) 25 rfl rfl rfl rfl ?_; simp only [zp]
      refine sv (.int .i64 ((i + 1 : Nat) : Int)) 26 rfl rfl (ex_bin rfl rfl rfl (eg3 _ _ _ _ _ _) (add3 _ (by omega) (by omega))) ?_; simp only [zp]; refine sg (.int .i64 ((i + 1 : Nat) : Int)) 5 rfl rfl rfl rfl ?_; simp only [zp]; refine st_end ?_; subst hQ; refine then_go ?_
      go_roundw
      case rel => exact ⟨i + 1, by omega, rfl, E, k1, k2⟩
      case measure => simp [intOf]; omega
    · skip
      refine wp_seq ?_; refine wq fun Q hQ => ?_; refine sm (.int .i64 (i : Nat)) 20 rfl rfl rfl rfl ?_; simp only [zp]; refine sv (.pointer (some ⟨b1, 1, none⟩)) 21 rfl rfl (ex_fa (p := (.pointer (some ⟨b1, 0, none⟩))) rfl rfl (fa46_1 _ _)) ?_; simp only [zp]; refine sv (.slice p l c) 22 rfl rfl (ex_load (p := (.pointer (some ⟨b1, 1, none⟩))) rfl rfl (ld44 (at_cell k1 rfl))) ?_; simp only [zp]; refine sv (.int .i64 (l : Nat)) 23 rfl rfl (ex_len rfl rfl (len44 _ _ _ _ _)) ?_; simp only [zp]
      refine sv (.bool false) 24 rfl rfl (ex_bin (u := (.int .i64 (i : Nat))) (r := (.int .i64 (l : Nat))) rfl rfl rfl (eg3 _ _ _ _ _ _) (lss3 _ (decide_eq_false (by omega)))) ?_; simp only [zp]; refine st_end ?_; subst hQ; refine wp_cond_false rfl ?_; refine wp_exit ?_; refine ex_then ?_; refine ex_then ?_; refine ex_blk ?_; refine wq fun Q hQ => ?_; refine sg (.bool true) 4 rfl rfl rfl rfl ?_; simp only [zp]; refine st_end ?_; subst hQ; refine wp_ret ?_; refine bodyPost_ret (results_tmp Try.results18 _ _ _) rfl ⟨rfl, E⟩

/-- inputs in a row -/
def InsR (W : World) (g n : Nat) (Is : Nat → Array Value) : Prop := ∀ i, i < n → W.rangeAt g (i * 130) (Is i).toList
theorem InsR.below {w W : World} {g n : Nat} {Is : Nat → Array Value} (h : InsR w g n Is) (B : Below w.heap.size w W) : InsR W g n Is := fun i hi => range_below (h i hi) B
/-- two transactions with the same inputs and outputs -/
structure Alike (W : World) (n m : Nat) (a a' b b' : Option Addr) : Prop where
  ins : n = 0 ∨ ∃ g g' Is, a = some ⟨g, 0, none⟩ ∧ a' = some ⟨g', 0, none⟩ ∧ InsR W g n Is ∧ InsR W g' n Is ∧ ∀ i, i < n → IsI (Is i)
  outs : m = 0 ∨ ∃ g g' base base' cap cap' M L P, b = some ⟨g, 0, none⟩ ∧ b' = some ⟨g', 0, none⟩ ∧ Outs W base g m cap M L P ∧ Outs W base' g' m cap' M L P ∧ ∀ j, j < m → SelfPs (P j) (L j) ∧ L j ≤ 64
theorem Alike.below {w W : World} {n m : Nat} {a a' b b' : Option Addr} (h : Alike w n m a a' b b') (B : Below w.heap.size w W) : Alike W n m a a' b b' := by
  refine ⟨?_, ?_⟩
  · rcases h.ins with h | ⟨g, g', Is, e1, e2, h1, h2, h3⟩
    · exact .inl h
    · exact .inr ⟨g, g', Is, e1, e2, h1.below B, h2.below B, h3⟩
  · rcases h.outs with h | ⟨g, g', ba, ba', c, c', M, L, P, e1, e2, h1, h2, h3⟩
    · exact .inl h
    · exact .inr ⟨g, g', ba, ba', c, c', M, L, P, e1, e2, h1.keep B, h2.keep B, h3⟩
set_option maxHeartbeats 4000000 in
theorem same_ok {n m c c' d d' : Nat} {a a' b b' : Option Addr} (w : World) (hn : n ≤ 1000) (hm : m ≤ 1000) (hA : Alike w n m a a' b b') :
    Calls Try.prog 11 #[.agg #[.slice a n c, .slice b m d], .agg #[.slice a' n c', .slice b' m d']] w fun e w' => e = .returned (.bool true) ∧ Below w.heap.size w w' := by
  have E : Below w.heap.size w w := Below.refl _ _
  go_enter Try.func11, Try.ntmps11; refine wq fun Q hQ => ?_; refine st_new (fun b => .pointer (some ⟨b, 0, none⟩)) (some 2) rfl rfl (ex_box rfl rfl) ?_; intro b1 W1 k1 g1 B; simp only [zp]; have ge_b1 := Nat.le_trans E.size g1; replace E := below_next E B; clear B; refine st_new (fun b => .pointer (some ⟨b, 0, none⟩)) (some 3) rfl rfl (ex_box rfl rfl) ?_; intro b2 W2 k2 g2 B; simp only [zp]
  have ne_b2_b1 : b2 ≠ b1 := fun e => by have := lt_of k1; omega
  have ge_b2 := Nat.le_trans E.size g2; replace E := below_next E B; replace k1 := keep B k1; clear B; refine sg (.bool false) 4 rfl rfl rfl rfl ?_; simp only [zp]; refine st_end ?_; subst hQ; refine wp_seq ?_; refine wq fun Q hQ => ?_; refine sv (.pointer (some ⟨b1, 0, none⟩)) 7 rfl rfl (ex_fa (p := (.pointer (some ⟨b1, 0, none⟩))) rfl rfl (fa34_0 _ _)) ?_; simp only [zp]; refine sv (.slice a n c) 8 rfl rfl (ex_load (p := (.pointer (some ⟨b1, 0, none⟩))) rfl rfl (ld31 (at_cell k1 rfl))) ?_; simp only [zp]
  refine sv (.int .i64 (n : Nat)) 9 rfl rfl (ex_len rfl rfl (len31 _ _ _ _ _)) ?_; simp only [zp]; refine sv (.pointer (some ⟨b2, 0, none⟩)) 10 rfl rfl (ex_fa (p := (.pointer (some ⟨b2, 0, none⟩))) rfl rfl (fa34_0 _ _)) ?_; simp only [zp]; refine sv (.slice a' n c') 11 rfl rfl (ex_load (p := (.pointer (some ⟨b2, 0, none⟩))) rfl rfl (ld31 (at_cell k2 rfl))) ?_; simp only [zp]; refine sv (.int .i64 (n : Nat)) 12 rfl rfl (ex_len rfl rfl (len31 _ _ _ _ _)) ?_; simp only [zp]
  refine sv (.bool false) 13 rfl rfl (ex_bin (u := (.int .i64 (n : Nat))) (r := (.int .i64 (n : Nat))) rfl rfl rfl (eg3 _ _ _ _ _ _) (neq3 _ (decide_eq_false (fun e => e rfl)))) ?_; simp only [zp]; refine sm (.bool false) 14 rfl rfl rfl rfl ?_; simp only [zp]; refine sv (.pointer (some ⟨b1, 1, none⟩)) 15 rfl rfl (ex_fa (p := (.pointer (some ⟨b1, 0, none⟩))) rfl rfl (fa34_1 _ _)) ?_; simp only [zp]; refine sv (.slice b m d) 16 rfl rfl (ex_load (p := (.pointer (some ⟨b1, 1, none⟩))) rfl rfl (ld32 (at_cell k1 rfl))) ?_; simp only [zp]
  refine sv (.int .i64 (m : Nat)) 17 rfl rfl (ex_len rfl rfl (len32 _ _ _ _ _)) ?_; simp only [zp]; refine sv (.pointer (some ⟨b2, 1, none⟩)) 18 rfl rfl (ex_fa (p := (.pointer (some ⟨b2, 0, none⟩))) rfl rfl (fa34_1 _ _)) ?_; simp only [zp]; refine sv (.slice b' m d') 19 rfl rfl (ex_load (p := (.pointer (some ⟨b2, 1, none⟩))) rfl rfl (ld32 (at_cell k2 rfl))) ?_; simp only [zp]; refine sv (.int .i64 (m : Nat)) 20 rfl rfl (ex_len rfl rfl (len32 _ _ _ _ _)) ?_; simp only [zp]
  refine sv (.bool false) 21 rfl rfl (ex_bin (u := (.int .i64 (m : Nat))) (r := (.int .i64 (m : Nat))) rfl rfl rfl (eg3 _ _ _ _ _ _) (neq3 _ (decide_eq_false (fun e => e rfl)))) ?_; simp only [zp]; refine sv (.bool false) 22 rfl rfl (ex_pkF rfl rfl rfl) ?_; simp only [zp]; refine st_end ?_; subst hQ; refine wp_cond_false rfl ?_; refine wp_skip ?_; refine wp_seq ?_; refine wq fun Q hQ => ?_; refine sg (.int .i64 0) 5 rfl rfl rfl rfl ?_; simp only [zp]; refine st_end ?_; subst hQ; refine wp_block ?_
  go_loopw [5] (fun v5 wr => ∃ i : Nat, i ≤ n ∧ v5 = .int .i64 i ∧ Below w.heap.size w wr ∧ wr.heap[b1]? = some (.cells #[.slice a n c, .slice b m d] 34) ∧ wr.heap[b2]? = some (.cells #[.slice a' n c', .slice b' m d'] 34)) (fun v5 _ => n - (intOf v5).toNat)
  case atStart => exact ⟨0, Nat.zero_le _, rfl, E, k1, k2⟩
  case round =>
    clear E k1 k2; obtain ⟨i, hi, rfl, E, k1, k2⟩ := hrel
    by_cases hlt : i < n
    · skip
      rcases hA.ins with hh | ⟨g, g', Is, rfl, rfl, I1, I2, I3⟩
      · omega
      have J1 := range_below (I1 i hlt) E; have J2 := range_below (I2 i hlt) E; have I4 := I3 i hlt; refine wp_seq ?_; refine wq fun Q hQ => ?_; refine sm (.int .i64 (i : Nat)) 23 rfl rfl rfl rfl ?_; simp only [zp]; refine sv (.pointer (some ⟨b1, 0, none⟩)) 24 rfl rfl (ex_fa (p := (.pointer (some ⟨b1, 0, none⟩))) rfl rfl (fa34_0 _ _)) ?_; simp only [zp]; refine sv (.slice (some ⟨g, 0, none⟩) n c) 25 rfl rfl (ex_load (p := (.pointer (some ⟨b1, 0, none⟩))) rfl rfl (ld31 (at_cell k1 rfl))) ?_; simp only [zp]
      refine sv (.int .i64 (n : Nat)) 26 rfl rfl (ex_len rfl rfl (len31 _ _ _ _ _)) ?_; simp only [zp]; refine sv (.bool true) 27 rfl rfl (ex_bin (u := (.int .i64 (i : Nat))) (r := (.int .i64 (n : Nat))) rfl rfl rfl (eg3 _ _ _ _ _ _) (lss3 _ (decide_eq_true (by omega)))) ?_; simp only [zp]; refine st_end ?_; subst hQ; refine wp_cond_true rfl ?_; refine wp_skip ?_; refine wp_seq ?_; refine wp_block ?_; refine wp_seq ?_; obtain ⟨W3, hwd⟩ : ∃ wd, wr.drew = wd := ⟨_, rfl⟩; refine wp_region_held (S := fun W => Kept Nil W3 W) (by kernel_rfl) ?_
      show wpAnyH _ _ _ _ _ _ _ _ wr.drew
      rw [hwd]; refine capQ fun Q hQ => ?_
      have hQP : ∀ c (a : Act) (d : Nat) v w, Q (.panic c) (a.put (some d) v) w → Q (.panic c) a w := by
        subst hQ; exact fun _ _ _ _ _ h => h
      have BD : Below wr.heap.size wr W3 := by rw [← hwd]; exact below_drew (Below.refl _ _)
      clear hwd; replace E := below_next E BD; replace k1 := keep BD k1; replace k2 := keep BD k2; replace J1 := range_below J1 BD; replace J2 := range_below J2 BD; clear BD
      have S : Kept Nil W3 W3 := Kept.refl _ _
      have d_k1 := k1; have d_k2 := k2; have d_J1 := J1; have d_J2 := J2; refine ah_take (v := (.pointer (some ⟨b1, 0, none⟩))) (i := 0) (some 30) rfl rfl (by kernel_rfl) (by kernel_rfl) (by kernel_rfl) rfl (fun W hK => ex_fa (p := (.pointer (some ⟨b1, 0, none⟩))) rfl rfl (fa34_0 _ _)) S (fun c a w h => hQP c a _ _ w h) ?_; simp only [zp]
      refine ah_take (v := (.slice (some ⟨g, 0, none⟩) n c)) (i := 1) (some 31) rfl rfl (by kernel_rfl) (by kernel_rfl) (by kernel_rfl) rfl (fun W hK => ex_load (p := (.pointer (some ⟨b1, 0, none⟩))) rfl rfl (ld31 (at_cell (keepK hK d_k1 (nilN _)) rfl))) S (fun c a w h => hQP c a _ _ w h) ?_; simp only [zp]; refine ah_take (v := (.int .i64 (i : Nat))) (i := 2) (some 32) rfl rfl (by kernel_rfl) (by kernel_rfl) (by kernel_rfl) rfl (fun W hK => ex_mv rfl rfl) S (fun c a w h => hQP c a _ _ w h) ?_; simp only [zp]
      refine ah_take (v := (.pointer (some ⟨g, (i * 130), none⟩))) (i := 3) (some 33) rfl rfl (by kernel_rfl) (by kernel_rfl) (by kernel_rfl) rfl (fun W hK => ex_ix31 rfl rfl rfl hlt) S (fun c a w h => hQP c a _ _ w h) ?_; simp only [zp]; refine ah_take (v := (.agg (Is i))) (i := 4) (some 34) rfl rfl (by kernel_rfl) (by kernel_rfl) (by kernel_rfl) rfl (fun W hK => ex_load rfl rfl (ld_range (range_kept hK d_J1) Try.underlying61 rfl (inf61.trans (congrArg some I4.size.symm)))) S (fun c a w h => hQP c a _ _ w h) ?_; simp only [zp]
      refine ah_take (v := (.pointer (some ⟨b2, 0, none⟩))) (i := 5) (some 35) rfl rfl (by kernel_rfl) (by kernel_rfl) (by kernel_rfl) rfl (fun W hK => ex_fa (p := (.pointer (some ⟨b2, 0, none⟩))) rfl rfl (fa34_0 _ _)) S (fun c a w h => hQP c a _ _ w h) ?_; simp only [zp]; refine ah_take (v := (.slice (some ⟨g', 0, none⟩) n c')) (i := 6) (some 36) rfl rfl (by kernel_rfl) (by kernel_rfl) (by kernel_rfl) rfl (fun W hK => ex_load (p := (.pointer (some ⟨b2, 0, none⟩))) rfl rfl (ld31 (at_cell (keepK hK d_k2 (nilN _)) rfl))) S (fun c a w h => hQP c a _ _ w h) ?_; simp only [zp]
      refine ah_take (v := (.int .i64 (i : Nat))) (i := 7) (some 37) rfl rfl (by kernel_rfl) (by kernel_rfl) (by kernel_rfl) rfl (fun W hK => ex_mv rfl rfl) S (fun c a w h => hQP c a _ _ w h) ?_; simp only [zp]; refine ah_take (v := (.pointer (some ⟨g', (i * 130), none⟩))) (i := 8) (some 38) rfl rfl (by kernel_rfl) (by kernel_rfl) (by kernel_rfl) rfl (fun W hK => ex_ix31 rfl rfl rfl hlt) S (fun c a w h => hQP c a _ _ w h) ?_; simp only [zp]
      refine ah_take (v := (.agg (Is i))) (i := 9) (some 39) rfl rfl (by kernel_rfl) (by kernel_rfl) (by kernel_rfl) rfl (fun W hK => ex_load rfl rfl (ld_range (range_kept hK d_J2) Try.underlying61 rfl (inf61.trans (congrArg some I4.size.symm)))) S (fun c a w h => hQP c a _ _ w h) ?_; simp only [zp]; refine ah_take (v := (.bool false)) (i := 10) (some 40) rfl rfl (by kernel_rfl) (by kernel_rfl) (by kernel_rfl) rfl (fun W hK => ex_bin rfl rfl rfl (eg61 _ _ _ _ _) (neq_refl I4.self _)) S (fun c a w h => hQP c a _ _ w h) ?_; simp only [zp]; refine ah_done (by kernel_rfl) ?_; clear hQP
      subst hQ; clear S d_k1 d_k2 d_J1 d_J2; refine wp_cond_false rfl ?_; refine wp_skip ?_; refine wl_in (wl_cap fun Q hQ => ?_); refine sm (.int .i64 (i : Nat)) 28 rfl rfl rfl rfl ?_; simp only [zp]; refine sv (.int .i64 ((i + 1 : Nat) : Int)) 29 rfl rfl (ex_bin rfl rfl rfl (eg3 _ _ _ _ _ _) (add3 _ (by omega) (by omega))) ?_; simp only [zp]; refine sg (.int .i64 ((i + 1 : Nat) : Int)) 5 rfl rfl rfl rfl ?_; simp only [zp]; refine st_end ?_; subst hQ; refine then_go ?_
      go_roundw
      case rel => exact ⟨i + 1, by omega, rfl, E, k1, k2⟩
      case measure => simp [intOf]; omega
    · skip
      refine wp_seq ?_; refine wq fun Q hQ => ?_; refine sm (.int .i64 (i : Nat)) 23 rfl rfl rfl rfl ?_; simp only [zp]; refine sv (.pointer (some ⟨b1, 0, none⟩)) 24 rfl rfl (ex_fa (p := (.pointer (some ⟨b1, 0, none⟩))) rfl rfl (fa34_0 _ _)) ?_; simp only [zp]; refine sv (.slice a n c) 25 rfl rfl (ex_load (p := (.pointer (some ⟨b1, 0, none⟩))) rfl rfl (ld31 (at_cell k1 rfl))) ?_; simp only [zp]; refine sv (.int .i64 (n : Nat)) 26 rfl rfl (ex_len rfl rfl (len31 _ _ _ _ _)) ?_; simp only [zp]
      refine sv (.bool false) 27 rfl rfl (ex_bin (u := (.int .i64 (i : Nat))) (r := (.int .i64 (n : Nat))) rfl rfl rfl (eg3 _ _ _ _ _ _) (lss3 _ (decide_eq_false (by omega)))) ?_; simp only [zp]; refine st_end ?_; subst hQ; refine wp_cond_false rfl ?_; refine wp_exit ?_; refine ex_then ?_; refine ex_then ?_; refine ex_blk ?_; refine wp_seq ?_; refine wq fun Q hQ => ?_; refine sg (.int .i64 0) 6 rfl rfl rfl rfl ?_; simp only [zp]; refine st_end ?_; subst hQ; refine wp_block ?_
      go_loopw [6] (fun v5 wr => ∃ i : Nat, i ≤ m ∧ v5 = .int .i64 i ∧ Below w.heap.size w wr ∧ wr.heap[b1]? = some (.cells #[.slice a n c, .slice b m d] 34) ∧ wr.heap[b2]? = some (.cells #[.slice a' n c', .slice b' m d'] 34)) (fun v5 _ => m - (intOf v5).toNat)
      case atStart => exact ⟨0, Nat.zero_le _, rfl, E, k1, k2⟩
      case round =>
        clear E k1 k2; obtain ⟨i, hi, rfl, E, k1, k2⟩ := hrel
        by_cases hlt : i < m
        · skip
          rcases hA.outs with hh | ⟨g, g', ba, ba', oc, oc', M, L, P, rfl, rfl, O1, O2, O3⟩
          · omega
          obtain ⟨p, u1, u2⟩ := O1.sl hlt; obtain ⟨q, v1, v2⟩ := O2.sl hlt; have u0 := O1.am hlt; have v0 := O2.am hlt; replace u0 := (E.cell (block_lt_of_cell u0)).trans u0; replace v0 := (E.cell (block_lt_of_cell v0)).trans v0; replace u1 := (E.cell (block_lt_of_cell u1)).trans u1; replace v1 := (E.cell (block_lt_of_cell v1)).trans v1; replace u2 := (E.block p (lt_of u2)).trans u2; replace v2 := (E.block q (lt_of v2)).trans v2; refine wp_seq ?_; refine wq fun Q hQ => ?_; refine sm (.int .i64 (i : Nat)) 41 rfl rfl rfl rfl ?_; simp only [zp]
          refine sv (.pointer (some ⟨b1, 1, none⟩)) 42 rfl rfl (ex_fa (p := (.pointer (some ⟨b1, 0, none⟩))) rfl rfl (fa34_1 _ _)) ?_; simp only [zp]; refine sv (.slice (some ⟨g, 0, none⟩) m d) 43 rfl rfl (ex_load (p := (.pointer (some ⟨b1, 1, none⟩))) rfl rfl (ld32 (at_cell k1 rfl))) ?_; simp only [zp]; refine sv (.int .i64 (m : Nat)) 44 rfl rfl (ex_len rfl rfl (len32 _ _ _ _ _)) ?_; simp only [zp]; refine sv (.bool true) 45 rfl rfl (ex_bin (u := (.int .i64 (i : Nat))) (r := (.int .i64 (m : Nat))) rfl rfl rfl (eg3 _ _ _ _ _ _) (lss3 _ (decide_eq_true (by omega)))) ?_; simp only [zp]
          refine st_end ?_; subst hQ; refine wp_cond_true rfl ?_; refine wp_skip ?_; refine wp_seq ?_; refine wp_block ?_; refine wp_seq ?_; obtain ⟨W4, hwd⟩ : ∃ wd, wr.drew = wd := ⟨_, rfl⟩; refine wp_region_held (S := fun W => Kept Nil W4 W) (by kernel_rfl) ?_
          show wpAnyH _ _ _ _ _ _ _ _ wr.drew
          rw [hwd]; refine capQ fun Q hQ => ?_
          have hQP : ∀ c (a : Act) (d : Nat) v w, Q (.panic c) (a.put (some d) v) w → Q (.panic c) a w := by
            subst hQ; exact fun _ _ _ _ _ h => h
          have BD : Below wr.heap.size wr W4 := by rw [← hwd]; exact below_drew (Below.refl _ _)
          clear hwd; replace E := below_next E BD; replace k1 := keep BD k1; replace k2 := keep BD k2; replace u0 := (BD.cell (block_lt_of_cell u0)).trans u0; replace v0 := (BD.cell (block_lt_of_cell v0)).trans v0; replace u1 := (BD.cell (block_lt_of_cell u1)).trans u1; replace v1 := (BD.cell (block_lt_of_cell v1)).trans v1; replace u2 := keep BD u2; replace v2 := keep BD v2; clear BD
          have S : Kept Nil W4 W4 := Kept.refl _ _
          have d_k1 := k1; have d_k2 := k2; have d_u0 := u0; have d_v0 := v0; have d_u1 := u1; have d_v1 := v1; have d_u2 := u2; have d_v2 := v2; refine ah_take (v := (.pointer (some ⟨b1, 1, none⟩))) (i := 0) (some 48) rfl rfl (by kernel_rfl) (by kernel_rfl) (by kernel_rfl) rfl (fun W hK => ex_fa (p := (.pointer (some ⟨b1, 0, none⟩))) rfl rfl (fa34_1 _ _)) S (fun c a w h => hQP c a _ _ w h) ?_; simp only [zp]
          refine ah_take (v := (.slice (some ⟨g, 0, none⟩) m d)) (i := 1) (some 49) rfl rfl (by kernel_rfl) (by kernel_rfl) (by kernel_rfl) rfl (fun W hK => ex_load (p := (.pointer (some ⟨b1, 1, none⟩))) rfl rfl (ld32 (at_cell (keepK hK d_k1 (nilN _)) rfl))) S (fun c a w h => hQP c a _ _ w h) ?_; simp only [zp]; refine ah_take (v := (.int .i64 (i : Nat))) (i := 2) (some 50) rfl rfl (by kernel_rfl) (by kernel_rfl) (by kernel_rfl) rfl (fun W hK => ex_mv rfl rfl) S (fun c a w h => hQP c a _ _ w h) ?_; simp only [zp]
          refine ah_take (v := (.pointer (some ⟨g, (i * 2), none⟩))) (i := 3) (some 51) rfl rfl (by kernel_rfl) (by kernel_rfl) (by kernel_rfl) rfl (fun W hK => ex_ix32 rfl rfl rfl hlt) S (fun c a w h => hQP c a _ _ w h) ?_; simp only [zp]; refine ah_take (v := (.agg #[.int .i64 (M i), .slice (some ⟨p, 0, none⟩) (L i) (L i)])) (i := 4) (some 52) rfl rfl (by kernel_rfl) (by kernel_rfl) (by kernel_rfl) rfl (fun W hK => ex_load rfl rfl (ld46 (cell_kept hK d_u0) (cell_kept hK d_u1))) S (fun c a w h => hQP c a _ _ w h) ?_; simp only [zp]
          refine ah_take (v := (.pointer (some ⟨b2, 1, none⟩))) (i := 5) (some 53) rfl rfl (by kernel_rfl) (by kernel_rfl) (by kernel_rfl) rfl (fun W hK => ex_fa (p := (.pointer (some ⟨b2, 0, none⟩))) rfl rfl (fa34_1 _ _)) S (fun c a w h => hQP c a _ _ w h) ?_; simp only [zp]; refine ah_take (v := (.slice (some ⟨g', 0, none⟩) m d')) (i := 6) (some 54) rfl rfl (by kernel_rfl) (by kernel_rfl) (by kernel_rfl) rfl (fun W hK => ex_load (p := (.pointer (some ⟨b2, 1, none⟩))) rfl rfl (ld32 (at_cell (keepK hK d_k2 (nilN _)) rfl))) S (fun c a w h => hQP c a _ _ w h) ?_; simp only [zp]
          refine ah_take (v := (.int .i64 (i : Nat))) (i := 7) (some 55) rfl rfl (by kernel_rfl) (by kernel_rfl) (by kernel_rfl) rfl (fun W hK => ex_mv rfl rfl) S (fun c a w h => hQP c a _ _ w h) ?_; simp only [zp]; refine ah_take (v := (.pointer (some ⟨g', (i * 2), none⟩))) (i := 8) (some 56) rfl rfl (by kernel_rfl) (by kernel_rfl) (by kernel_rfl) rfl (fun W hK => ex_ix32 rfl rfl rfl hlt) S (fun c a w h => hQP c a _ _ w h) ?_; simp only [zp]
          refine ah_take (v := (.agg #[.int .i64 (M i), .slice (some ⟨q, 0, none⟩) (L i) (L i)])) (i := 9) (some 57) rfl rfl (by kernel_rfl) (by kernel_rfl) (by kernel_rfl) rfl (fun W hK => ex_load rfl rfl (ld46 (cell_kept hK d_v0) (cell_kept hK d_v1))) S (fun c a w h => hQP c a _ _ w h) ?_; simp only [zp]; refine ah_or1 (i := 10) (by kernel_rfl) ?_
          refine nx_call (some 58) rfl rfl rfl (sameout_ok W4 (O3 i hlt).2 (O3 i hlt).1 (.inr ⟨p, q, rfl, rfl, u2, v2⟩)) (ex_call (f := 18) (vs := [(.agg #[.int .i64 (M i), .slice (some ⟨p, 0, none⟩) (L i) (L i)]), (.agg #[.int .i64 (M i), .slice (some ⟨q, 0, none⟩) (L i) (L i)])]) rfl (cf18 _) rfl) ?_; rintro e W5 ⟨rfl, B⟩; refine ⟨_, rfl, S.next B, ?_⟩; simp only [zp]; replace E := below_next E B; replace k1 := keep B k1; replace k2 := keep B k2; replace u0 := (B.cell (block_lt_of_cell u0)).trans u0; replace v0 := (B.cell (block_lt_of_cell v0)).trans v0
          replace u1 := (B.cell (block_lt_of_cell u1)).trans u1; replace v1 := (B.cell (block_lt_of_cell v1)).trans v1; replace u2 := keep B u2; replace v2 := keep B v2; replace S := S.next B; refine ah_take (v := (.bool false)) (i := 11) (some 59) rfl rfl (by kernel_rfl) (by kernel_rfl) (by kernel_rfl) rfl (fun W hK => ex_not rfl rfl rfl) S (fun c a w h => hQP c a _ _ w h) ?_; simp only [zp]; refine ah_done (by kernel_rfl) ?_; clear hQP; subst hQ; clear S d_k1 d_k2 d_u0 d_v0 d_u1 d_v1 d_u2 d_v2; refine wp_cond_false rfl ?_; refine wp_skip ?_; refine wl_in (wl_cap fun Q hQ => ?_)
          refine sm (.int .i64 (i : Nat)) 46 rfl rfl rfl rfl ?_; simp only [zp]; refine sv (.int .i64 ((i + 1 : Nat) : Int)) 47 rfl rfl (ex_bin rfl rfl rfl (eg3 _ _ _ _ _ _) (add3 _ (by omega) (by omega))) ?_; simp only [zp]; refine sg (.int .i64 ((i + 1 : Nat) : Int)) 6 rfl rfl rfl rfl ?_; simp only [zp]; refine st_end ?_; subst hQ; refine then_go ?_
          go_roundw
          case rel => exact ⟨i + 1, by omega, rfl, E, k1, k2⟩
          case measure => simp [intOf]; omega
        · skip
          refine wp_seq ?_; refine wq fun Q hQ => ?_; refine sm (.int .i64 (i : Nat)) 41 rfl rfl rfl rfl ?_; simp only [zp]; refine sv (.pointer (some ⟨b1, 1, none⟩)) 42 rfl rfl (ex_fa (p := (.pointer (some ⟨b1, 0, none⟩))) rfl rfl (fa34_1 _ _)) ?_; simp only [zp]; refine sv (.slice b m d) 43 rfl rfl (ex_load (p := (.pointer (some ⟨b1, 1, none⟩))) rfl rfl (ld32 (at_cell k1 rfl))) ?_; simp only [zp]; refine sv (.int .i64 (m : Nat)) 44 rfl rfl (ex_len rfl rfl (len32 _ _ _ _ _)) ?_; simp only [zp]
          refine sv (.bool false) 45 rfl rfl (ex_bin (u := (.int .i64 (i : Nat))) (r := (.int .i64 (m : Nat))) rfl rfl rfl (eg3 _ _ _ _ _ _) (lss3 _ (decide_eq_false (by omega)))) ?_; simp only [zp]; refine st_end ?_; subst hQ; refine wp_cond_false rfl ?_; refine wp_exit ?_; refine ex_then ?_; refine ex_then ?_; refine ex_blk ?_; refine wq fun Q hQ => ?_; refine sg (.bool true) 4 rfl rfl rfl rfl ?_; simp only [zp]; refine st_end ?_; subst hQ; refine wp_ret ?_; refine bodyPost_ret (results_tmp Try.results11 _ _ _) rfl ⟨rfl, E⟩

end Go.Proofs.Ytkhpbjafdamhaaa
