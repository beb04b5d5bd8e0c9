/- Whether terms may be. -/
import Derived.Test.YtkhpbjafdamhaaaDIdx
namespace Go.Proofs.Ytkhpbjafdamhaaa
open Go.RowKit
set_option linter.unusedVariables false
set_option linter.unusedSimpArgs false
set_option maxRecDepth 100000

theorem zero3 : (Try.prog.info? 3).map (fun i => (i.zero, i.size)) = some (some (.int .i64 0), 1) := by kernel_rfl
theorem bs82_2 (x y : Int) (W : World) : (Instr.buildSlice 82 2 #[(0, .int .i64 x), (1, .int .i64 y)]).run Try.prog W = .ok (.slice (some ⟨W.heap.size, 0, none⟩) 2 2) (W.alloc (.cells #[.int .i64 x, .int .i64 y] 3)) :=
  bslice W 82 3 2 _ _ _ 1 Try.underlying82 zero3 (by decide) (by decide) (by kernel_rfl)
theorem bs82_3 (x y z : Int) (W : World) : (Instr.buildSlice 82 3 #[(0, .int .i64 x), (1, .int .i64 y), (2, .int .i64 z)]).run Try.prog W = .ok (.slice (some ⟨W.heap.size, 0, none⟩) 3 3) (W.alloc (.cells #[.int .i64 x, .int .i64 y, .int .i64 z] 3)) :=
  bslice W 82 3 3 _ _ _ 1 Try.underlying82 zero3 (by decide) (by decide) (by kernel_rfl)
theorem bs82_1 (x : Int) (W : World) : (Instr.buildSlice 82 1 #[(0, .int .i64 x)]).run Try.prog W = .ok (.slice (some ⟨W.heap.size, 0, none⟩) 1 1) (W.alloc (.cells #[.int .i64 x] 3)) :=
  bslice W 82 3 1 _ _ _ 1 Try.underlying82 zero3 (by decide) (by decide) (by kernel_rfl)
theorem nn2 {x y : Int} (h : 0 ≤ x ∧ 0 ≤ y) : nnB (pick2 x y) 2 = true := decide_eq_true fun k hk => by unfold pick2; split <;> omega
theorem sumP2 (x y : Int) : sumP (pick2 x y) 2 = x + y := by simp [sumP, pick2]
theorem sum2_cells {x y : Int} {b : Nat} {W : World} (k : W.heap[b]? = some (.cells #[.int .i64 x, .int .i64 y] 3)) : ∀ i, i < 2 → W.cell? ⟨b, 0 + i, none⟩ = some (.int .i64 (pick2 x y i)) := fun i hi => by
  match i, hi with
  | 0, _ => exact at_cell k rfl
  | 1, _ => exact at_cell k rfl
theorem sum2_ok {x y : Int} {b : Nat} {W : World} (k : W.heap[b]? = some (.cells #[.int .i64 x, .int .i64 y] 3)) (h : 0 ≤ x ∧ 0 ≤ y ∧ x + y ≤ 9223372036854775807) :
    Calls Try.prog 34 #[.slice (some ⟨b, 0, none⟩) 2 2] W fun e w' => e = .returned (.tuple #[.int .i64 (x + y), .int .i64 0]) ∧ Below W.heap.size W w' := by
  refine (sum_row b 0 2 2 (pick2 x y) W (by omega) (lt_of k) (sum2_cells k) (fun i hi => by unfold pick2; split <;> omega)).mono fun e w' hp => ?_
  have e1 : sumN (pick2 x y) 2 = x + y := by unfold sumN; rw [if_pos (nn2 ⟨h.1, h.2.1⟩), sumP2, if_pos h.2.2]
  have e2 : sumE (pick2 x y) 2 = 0 := by unfold sumE; rw [if_pos (nn2 ⟨h.1, h.2.1⟩), sumP2, if_pos h.2.2]
  rw [e1, e2] at hp
  exact hp
theorem sum2_no {x y : Int} {b : Nat} {W : World} (k : W.heap[b]? = some (.cells #[.int .i64 x, .int .i64 y] 3)) (h1 : x ≤ 9223372036854775807) (h2 : y ≤ 9223372036854775807) (h : ¬ (0 ≤ x ∧ 0 ≤ y ∧ x + y ≤ 9223372036854775807)) :
    Calls Try.prog 34 #[.slice (some ⟨b, 0, none⟩) 2 2] W fun e w' => ∃ m q, q ≠ 0 ∧ e = .returned (.tuple #[.int .i64 m, .int .i64 q]) ∧ Below W.heap.size W w' := by
  refine (sum_row b 0 2 2 (pick2 x y) W (by omega) (lt_of k) (sum2_cells k) (fun i hi => by unfold pick2; split <;> omega)).mono fun e w' hp => ⟨_, _, ?_, hp.1, hp.2⟩
  unfold sumE
  by_cases hn : nnB (pick2 x y) 2 = true
  · rw [if_pos hn, sumP2, if_neg ?_]
    · decide
    · intro hle
      have h0 := of_decide_eq_true hn 0 (by omega)
      have h1 := of_decide_eq_true hn 1 (by omega)
      simp [pick2] at h0 h1
      exact h ⟨h0, h1, hle⟩
  · rw [if_neg hn]
    decide

theorem cont51 (k : Nat) (cap : Array Value) (ao : Option Addr) (n c : Nat) (z : Nat → Int) (P : Nat → Bool) (w : World) (h : Ns w ao n z) (hn : n ≤ 140737488355328) (hk : ∀ W vs, (callFunc k vs).run Try.prog W = .ok (.enter k vs) W)
    (hP : ∀ i, i < n → ∀ W, Below w.heap.size w W → Calls Try.prog k (#[.int .i64 (z i)] ++ cap) W fun e w' => e = .returned (.bool (P i)) ∧ Below W.heap.size W w') {r : Bool} (hr : decide (0 ≤ idxP P n) = r) :
    Calls Try.prog 51 #[.slice ao n c, .func (.func k) #[] cap] w fun e w' => e = .returned (.bool r) ∧ Below w.heap.size w w' := by
  have E : Below w.heap.size w w := Below.refl _ _
  go_enter Try.func51, Try.ntmps51
  refine wp_seq ?_
  refine wl_in ?_
  refine wl_cap fun Q hQ => ?_
  refine st_to (v := (.bool false)) (some 4) rfl rfl (ex_asg rfl rfl) ?_
  simp only [Act.put, List.setIfInBounds_toArray, List.set_cons_zero, List.set_cons_succ]
  refine st_end ?_
  subst hQ
  refine wp_seq ?_
  refine wl_in ?_
  refine wl_cap fun Q hQ => ?_
  refine st_to (v := (.slice ao n c)) (some 5) rfl rfl (ex_mv rfl rfl) ?_
  simp only [Act.put, List.setIfInBounds_toArray, List.set_cons_zero, List.set_cons_succ]
  refine st_to (v := (.func (.func k) #[] cap)) (some 6) rfl rfl (ex_mv rfl rfl) ?_
  simp only [Act.put, List.setIfInBounds_toArray, List.set_cons_zero, List.set_cons_succ]
  refine st_call (some 7) rfl rfl (idxN_any k cap ao n c z P w h hn hk hP) (ex_call (f := 62) (vs := [(.slice ao n c), (.func (.func k) #[] cap)]) rfl (cf62 _) rfl) ?_
  rintro e W1 ⟨rfl, B⟩
  refine ⟨_, rfl, ?_⟩
  simp only [Act.put, List.setIfInBounds_toArray, List.set_cons_zero, List.set_cons_succ]
  replace E := below_next E B
  refine st_to (v := (.bool r)) (some 8) rfl rfl (ex_bin (u := (.int .i64 (idxP P n))) (r := (.int .i64 0)) rfl rfl rfl (eg3 _ _ _ _ _ _) (geq3 _ hr)) ?_
  simp only [Act.put, List.setIfInBounds_toArray, List.set_cons_zero, List.set_cons_succ]
  refine st_to (v := (.bool r)) (some 4) rfl rfl (ex_asg rfl rfl) ?_
  simp only [Act.put, List.setIfInBounds_toArray, List.set_cons_zero, List.set_cons_succ]
  refine st_end ?_
  subst hQ
  refine wp_ret ?_
  refine bodyPost_ret (results_tmp Try.results51 _ _ _) rfl ⟨rfl, E⟩

theorem cont54 (k : Nat) (cap : Array Value) (ao : Option Addr) (n c : Nat) (Cs : Nat → Array Value) (hv : Nat → HV) (P : Nat → Bool) (w : World) (h : Hs w ao n Cs hv) (hn : n ≤ 140737488355328) (hk : ∀ W vs, (callFunc k vs).run Try.prog W = .ok (.enter k vs) W)
    (hP : ∀ i, i < n → ∀ W, Below w.heap.size w W → Calls Try.prog k (#[.agg (Cs i)] ++ cap) W fun e w' => e = .returned (.bool (P i)) ∧ Below W.heap.size W w') {r : Bool} (hr : decide (0 ≤ idxP P n) = r) :
    Calls Try.prog 54 #[.slice ao n c, .func (.func k) #[] cap] w fun e w' => e = .returned (.bool r) ∧ Below w.heap.size w w' := by
  have E : Below w.heap.size w w := Below.refl _ _
  go_enter Try.func54, Try.ntmps54
  refine wp_seq ?_
  refine wl_in ?_
  refine wl_cap fun Q hQ => ?_
  refine st_to (v := (.bool false)) (some 4) rfl rfl (ex_asg rfl rfl) ?_
  simp only [Act.put, List.setIfInBounds_toArray, List.set_cons_zero, List.set_cons_succ]
  refine st_end ?_
  subst hQ
  refine wp_seq ?_
  refine wl_in ?_
  refine wl_cap fun Q hQ => ?_
  refine st_to (v := (.slice ao n c)) (some 5) rfl rfl (ex_mv rfl rfl) ?_
  simp only [Act.put, List.setIfInBounds_toArray, List.set_cons_zero, List.set_cons_succ]
  refine st_to (v := (.func (.func k) #[] cap)) (some 6) rfl rfl (ex_mv rfl rfl) ?_
  simp only [Act.put, List.setIfInBounds_toArray, List.set_cons_zero, List.set_cons_succ]
  refine st_call (some 7) rfl rfl (idxH_any k cap ao n c Cs hv P w h hn hk hP) (ex_call (f := 44) (vs := [(.slice ao n c), (.func (.func k) #[] cap)]) rfl (cf44 _) rfl) ?_
  rintro e W1 ⟨rfl, B⟩
  refine ⟨_, rfl, ?_⟩
  simp only [Act.put, List.setIfInBounds_toArray, List.set_cons_zero, List.set_cons_succ]
  replace E := below_next E B
  refine st_to (v := (.bool r)) (some 8) rfl rfl (ex_bin (u := (.int .i64 (idxP P n))) (r := (.int .i64 0)) rfl rfl rfl (eg3 _ _ _ _ _ _) (geq3 _ hr)) ?_
  simp only [Act.put, List.setIfInBounds_toArray, List.set_cons_zero, List.set_cons_succ]
  refine st_to (v := (.bool r)) (some 4) rfl rfl (ex_asg rfl rfl) ?_
  simp only [Act.put, List.setIfInBounds_toArray, List.set_cons_zero, List.set_cons_succ]
  refine st_end ?_
  subst hQ
  refine wp_ret ?_
  refine bodyPost_ret (results_tmp Try.results54 _ _ _) rfl ⟨rfl, E⟩

theorem negT (x : Int) (h : x < 0) (h1 : x ≤ 9223372036854775807) (w : World) : Calls Try.prog 52 #[.int .i64 x] w fun e w' => e = .returned (.bool true) ∧ Below w.heap.size w w' := by
  have E : Below w.heap.size w w := Below.refl _ _
  go_enter Try.func52, Try.ntmps52
  refine wp_seq ?_
  refine wl_in ?_
  refine wl_cap fun Q hQ => ?_
  refine st_to (v := (.bool false)) (some 2) rfl rfl (ex_asg rfl rfl) ?_
  simp only [Act.put, List.setIfInBounds_toArray, List.set_cons_zero, List.set_cons_succ]
  refine st_end ?_
  subst hQ
  refine wp_seq ?_
  refine wl_in ?_
  refine wl_cap fun Q hQ => ?_
  refine st_to (v := (.int .i64 x)) (some 3) rfl rfl (ex_mv rfl rfl) ?_
  simp only [Act.put, List.setIfInBounds_toArray, List.set_cons_zero, List.set_cons_succ]
  refine st_to (v := (.bool true)) (some 4) rfl rfl (ex_bin (u := (.int .i64 x)) (r := (.int .i64 0)) rfl rfl rfl (eg3 _ _ _ _ _ _) (lss3 _ (decide_eq_true h))) ?_
  simp only [Act.put, List.setIfInBounds_toArray, List.set_cons_zero, List.set_cons_succ]
  refine st_to (v := (.bool true)) (some 5) rfl rfl (ex_mv rfl rfl) ?_
  simp only [Act.put, List.setIfInBounds_toArray, List.set_cons_zero, List.set_cons_succ]
  refine st_no (some 6) rfl rfl ?_
  simp only [Act.put, List.setIfInBounds_toArray, List.set_cons_zero, List.set_cons_succ]
  refine st_no (some 7) rfl rfl ?_
  simp only [Act.put, List.setIfInBounds_toArray, List.set_cons_zero, List.set_cons_succ]
  refine st_to (v := (.bool true)) (some 8) rfl rfl (ex_pkT rfl rfl rfl) ?_
  simp only [Act.put, List.setIfInBounds_toArray, List.set_cons_zero, List.set_cons_succ]
  refine st_to (v := (.bool true)) (some 2) rfl rfl (ex_asg rfl rfl) ?_
  simp only [Act.put, List.setIfInBounds_toArray, List.set_cons_zero, List.set_cons_succ]
  refine st_end ?_
  subst hQ
  refine wp_ret ?_
  refine bodyPost_ret (results_tmp Try.results52 _ _ _) rfl ⟨rfl, E⟩

theorem negF (x : Int) (h : ¬ x < 0) (h1 : x ≤ 9223372036854775807) (w : World) : Calls Try.prog 52 #[.int .i64 x] w fun e w' => e = .returned (.bool false) ∧ Below w.heap.size w w' := by
  have E : Below w.heap.size w w := Below.refl _ _
  go_enter Try.func52, Try.ntmps52
  refine wp_seq ?_
  refine wl_in ?_
  refine wl_cap fun Q hQ => ?_
  refine st_to (v := (.bool false)) (some 2) rfl rfl (ex_asg rfl rfl) ?_
  simp only [Act.put, List.setIfInBounds_toArray, List.set_cons_zero, List.set_cons_succ]
  refine st_end ?_
  subst hQ
  refine wp_seq ?_
  refine wl_in ?_
  refine wl_cap fun Q hQ => ?_
  refine st_to (v := (.int .i64 x)) (some 3) rfl rfl (ex_mv rfl rfl) ?_
  simp only [Act.put, List.setIfInBounds_toArray, List.set_cons_zero, List.set_cons_succ]
  refine st_to (v := (.bool false)) (some 4) rfl rfl (ex_bin (u := (.int .i64 x)) (r := (.int .i64 0)) rfl rfl rfl (eg3 _ _ _ _ _ _) (lss3 _ (decide_eq_false h))) ?_
  simp only [Act.put, List.setIfInBounds_toArray, List.set_cons_zero, List.set_cons_succ]
  refine st_to (v := (.bool false)) (some 5) rfl rfl (ex_mv rfl rfl) ?_
  simp only [Act.put, List.setIfInBounds_toArray, List.set_cons_zero, List.set_cons_succ]
  refine st_to (v := (.int .i64 x)) (some 6) rfl rfl (ex_mv rfl rfl) ?_
  simp only [Act.put, List.setIfInBounds_toArray, List.set_cons_zero, List.set_cons_succ]
  refine st_to (v := (.bool false)) (some 7) rfl rfl (ex_bin (u := (.int .i64 x)) (r := (.int .i64 9223372036854775807)) rfl rfl rfl (eg3 _ _ _ _ _ _) (gtr3 _ (decide_eq_false (by omega)))) ?_
  simp only [Act.put, List.setIfInBounds_toArray, List.set_cons_zero, List.set_cons_succ]
  refine st_to (v := (.bool false)) (some 8) rfl rfl (ex_pkF rfl rfl rfl) ?_
  simp only [Act.put, List.setIfInBounds_toArray, List.set_cons_zero, List.set_cons_succ]
  refine st_to (v := (.bool false)) (some 2) rfl rfl (ex_asg rfl rfl) ?_
  simp only [Act.put, List.setIfInBounds_toArray, List.set_cons_zero, List.set_cons_succ]
  refine st_end ?_
  subst hQ
  refine wp_ret ?_
  refine bodyPost_ret (results_tmp Try.results52 _ _ _) rfl ⟨rfl, E⟩

def pick3 (x y z : Int) : Nat → Int := fun k => if k = 0 then x else if k = 1 then y else z
theorem idx_ge (p : Nat → Bool) (n : Nat) {c : Bool} (h : (∃ k, k < n ∧ p k = true) ↔ c = true) : decide (0 ≤ idxP p n) = c := by
  rcases idxP_cases p n with ⟨e, h2⟩ | ⟨k, hk, e, hp, _⟩
  · rw [e]
    cases c with
    | true => obtain ⟨k, hk, hp⟩ := h.2 rfl; rw [h2 k hk] at hp; cases hp
    | false => rfl
  · rw [e, h.1 ⟨k, hk, hp⟩]
    exact decide_eq_true (by omega)

theorem areAm {x y z : Int} {b : Nat} {w : World} (k : w.heap[b]? = some (.cells #[.int .i64 x, .int .i64 y, .int .i64 z] 3)) (hx : x ≤ 9223372036854775807) (hy : y ≤ 9223372036854775807) (hz : z ≤ 9223372036854775807) {c : Bool} (hc : decide (0 ≤ x ∧ 0 ≤ y ∧ 0 ≤ z) = c) :
    Calls Try.prog 35 #[.slice (some ⟨b, 0, none⟩) 3 3] w fun e w' => e = .returned (.bool c) ∧ Below w.heap.size w w' := by
  have hN : Ns w (some ⟨b, 0, none⟩) 3 (pick3 x y z) := .inr ⟨b, 0, rfl, fun i hi => by
    match i, hi with
    | 0, _ => exact at_cell k rfl
    | 1, _ => exact at_cell k rfl
    | 2, _ => exact at_cell k rfl⟩
  have hle : ∀ i, pick3 x y z i ≤ 9223372036854775807 := fun i => by unfold pick3; repeat' split <;> omega
  have hC := cont51 52 #[] (some ⟨b, 0, none⟩) 3 3 (pick3 x y z) (fun i => decide (pick3 x y z i < 0)) w hN (by omega) cf52 (fun i hi W hW => by
    by_cases hh : pick3 x y z i < 0
    · rw [decide_eq_true hh]; exact negT _ hh (hle i) W
    · rw [decide_eq_false hh]; exact negF _ hh (hle i) W) (r := !c) (idx_ge _ _ (by
      subst hc
      constructor
      · rintro ⟨i, hi, h⟩
        have h := of_decide_eq_true h
        match i, hi with
        | 0, _ => simp [pick3] at h; simp; omega
        | 1, _ => simp [pick3] at h; simp; omega
        | 2, _ => simp [pick3] at h; simp; omega
      · intro h
        simp at h
        by_cases h0 : 0 ≤ x
        · by_cases h1 : 0 ≤ y
          · exact ⟨2, by omega, decide_eq_true (by simp [pick3]; omega)⟩
          · exact ⟨1, by omega, decide_eq_true (by simp [pick3]; omega)⟩
        · exact ⟨0, by omega, decide_eq_true (by simp [pick3]; omega)⟩))
  have E : Below w.heap.size w w := Below.refl _ _
  go_enter Try.func35, Try.ntmps35
  refine wp_seq ?_
  refine wl_in ?_
  refine wl_cap fun Q hQ => ?_
  refine st_to (v := (.bool false)) (some 2) rfl rfl (ex_asg rfl rfl) ?_
  simp only [Act.put, List.setIfInBounds_toArray, List.set_cons_zero, List.set_cons_succ]
  refine st_end ?_
  subst hQ
  refine wp_seq ?_
  refine wl_in ?_
  refine wl_cap fun Q hQ => ?_
  refine st_to (v := (.slice (some ⟨b, 0, none⟩) 3 3)) (some 3) rfl rfl (ex_mv rfl rfl) ?_
  simp only [Act.put, List.setIfInBounds_toArray, List.set_cons_zero, List.set_cons_succ]
  refine st_call (some 4) rfl rfl hC (ex_call (f := 51) (vs := [(.slice (some ⟨b, 0, none⟩) 3 3), (.func (.func 52) #[] #[])]) rfl (cf51 _) rfl) ?_
  rintro e W1 ⟨rfl, B⟩
  refine ⟨_, rfl, ?_⟩
  simp only [Act.put, List.setIfInBounds_toArray, List.set_cons_zero, List.set_cons_succ]
  replace E := below_next E B
  refine st_to (v := (.bool (!(!c)))) (some 5) rfl rfl (ex_not rfl rfl rfl) ?_
  simp only [Act.put, List.setIfInBounds_toArray, List.set_cons_zero, List.set_cons_succ]
  refine st_to (v := (.bool (!(!c)))) (some 2) rfl rfl (ex_asg rfl rfl) ?_
  simp only [Act.put, List.setIfInBounds_toArray, List.set_cons_zero, List.set_cons_succ]
  refine st_end ?_
  subst hQ
  refine wp_ret ?_
  refine bodyPost_ret (results_tmp Try.results35 _ _ _) rfl ⟨?_, E⟩
  show Ending.returned (.bool (!!c)) = _
  rw [Bool.not_not]

/-- no number of the terms is beyond what an int holds -/
structure TB (t : TV) : Prop where
  sa : t.sa ≤ 9223372036854775807
  sb : t.sb ≤ 9223372036854775807
  fee : t.fee ≤ 9223372036854775807
  res : t.res ≤ 9223372036854775807
  fl : t.fl ≤ 9223372036854775807
/-- may terms be? -/
def mayT (t : TV) : Bool := decide ((0 ≤ t.sa ∧ 0 ≤ t.sb ∧ t.sa + t.sb ≤ 9223372036854775807) ∧ (0 ≤ t.fee ∧ 0 ≤ t.res ∧ 0 ≤ t.fl) ∧ 1 ≤ t.ch ∧ t.ch ≤ 65535 ∧ 0 ≤ t.a ∧ t.a < t.b ∧ t.b < 8 ∧ 0 ≤ t.fo ∧ 1 ≤ t.d ∧ t.d ≤ 1000 ∧ 1 ≤ t.sl ∧ t.sl ≤ 16)
set_option maxHeartbeats 8000000 in
theorem may_any {C : Array Value} {t : TV} (w : World) (hT : IsT C t) (hb : TB t) {c : Bool} (hc : mayT t = c) :
    Calls Try.prog 12 #[.agg C] w fun e w' => e = .returned (.bool c) ∧ Below w.heap.size w w' := by
  subst hc
  unfold mayT
  by_cases c1 : 0 ≤ t.sa ∧ 0 ≤ t.sb ∧ t.sa + t.sb ≤ 9223372036854775807
  rotate_left
  · skip
    have E : Below w.heap.size w w := Below.refl _ _
    go_enter Try.func12, Try.ntmps12
    refine wp_seq ?_
    refine wl_in ?_
    refine wl_cap fun Q hQ => ?_
    refine st_new (fun b => .pointer (some ⟨b, 0, none⟩)) (some 1) rfl rfl (ex_box rfl rfl) ?_
    intro b1 W1 k1 g1 B
    simp only [Act.put, List.setIfInBounds_toArray, List.set_cons_zero, List.set_cons_succ]
    have ge_b1 := Nat.le_trans E.size g1
    replace E := below_next E B
    clear B
    refine st_to (v := (.bool false)) (some 2) rfl rfl (ex_asg rfl rfl) ?_
    simp only [Act.put, List.setIfInBounds_toArray, List.set_cons_zero, List.set_cons_succ]
    refine st_end ?_
    subst hQ
    refine wp_seq ?_
    refine wl_in ?_
    refine wl_cap fun Q hQ => ?_
    refine st_to (v := (.pointer (some ⟨b1, 36, none⟩))) (some 6) rfl rfl (ex_fa (p := (.pointer (some ⟨b1, 0, none⟩))) rfl rfl (fa26_4 _ _)) ?_
    simp only [Act.put, List.setIfInBounds_toArray, List.set_cons_zero, List.set_cons_succ]
    refine st_to (v := (.int .i64 t.sa)) (some 7) rfl rfl (ex_load (p := (.pointer (some ⟨b1, 36, none⟩))) rfl rfl (ld3 (at_cell k1 hT.c36))) ?_
    simp only [Act.put, List.setIfInBounds_toArray, List.set_cons_zero, List.set_cons_succ]
    refine st_to (v := (.pointer (some ⟨b1, 37, none⟩))) (some 8) rfl rfl (ex_fa (p := (.pointer (some ⟨b1, 0, none⟩))) rfl rfl (fa26_5 _ _)) ?_
    simp only [Act.put, List.setIfInBounds_toArray, List.set_cons_zero, List.set_cons_succ]
    refine st_to (v := (.int .i64 t.sb)) (some 9) rfl rfl (ex_load (p := (.pointer (some ⟨b1, 37, none⟩))) rfl rfl (ld3 (at_cell k1 hT.c37))) ?_
    simp only [Act.put, List.setIfInBounds_toArray, List.set_cons_zero, List.set_cons_succ]
    refine st_new (fun b => .slice (some ⟨b, 0, none⟩) 2 2) (some 10) rfl rfl (ex_bsl2 (u := (.int .i64 t.sa)) (r := (.int .i64 t.sb)) rfl rfl rfl (bs82_2 _ _ _)) ?_
    intro b2 W2 k2 g2 B
    simp only [Act.put, List.setIfInBounds_toArray, List.set_cons_zero, List.set_cons_succ]
    have ne_b2_b1 : b2 ≠ b1 := fun e => by have := lt_of k1; omega
    have ge_b2 := Nat.le_trans E.size g2
    replace E := below_next E B
    replace k1 := keep B k1
    clear B
    refine st_call (some 11) rfl rfl (sum2_no k2 hb.sa hb.sb c1) (ex_call (f := 34) (vs := [(.slice (some ⟨b2, 0, none⟩) 2 2)]) rfl (cf34 _) rfl) ?_
    rintro e W3 ⟨m, q, hq, rfl, B⟩
    refine ⟨_, rfl, ?_⟩
    simp only [Act.put, List.setIfInBounds_toArray, List.set_cons_zero, List.set_cons_succ]
    replace E := below_next E B
    replace k1 := keep B k1
    replace k2 := keep B k2
    refine st_to (v := (.tuple #[(.int .i64 m), (.int .i64 q)])) (some 5) rfl rfl (ex_mv rfl rfl) ?_
    simp only [Act.put, List.setIfInBounds_toArray, List.set_cons_zero, List.set_cons_succ]
    refine st_to (v := (.int .i64 m)) (some 12) rfl rfl (ex_ext rfl rfl rfl) ?_
    simp only [Act.put, List.setIfInBounds_toArray, List.set_cons_zero, List.set_cons_succ]
    refine st_to (v := (.int .i64 q)) (some 13) rfl rfl (ex_ext rfl rfl rfl) ?_
    simp only [Act.put, List.setIfInBounds_toArray, List.set_cons_zero, List.set_cons_succ]
    refine st_to (v := (.int .i64 m)) (some 3) rfl rfl (ex_asg rfl rfl) ?_
    simp only [Act.put, List.setIfInBounds_toArray, List.set_cons_zero, List.set_cons_succ]
    refine st_to (v := (.int .i64 q)) (some 4) rfl rfl (ex_asg rfl rfl) ?_
    simp only [Act.put, List.setIfInBounds_toArray, List.set_cons_zero, List.set_cons_succ]
    refine st_end ?_
    subst hQ
    refine wp_seq ?_
    refine wl_in ?_
    refine wl_cap fun Q hQ => ?_
    refine st_to (v := (.int .i64 q)) (some 14) rfl rfl (ex_mv rfl rfl) ?_
    simp only [Act.put, List.setIfInBounds_toArray, List.set_cons_zero, List.set_cons_succ]
    refine st_to (v := (.bool false)) (some 15) rfl rfl (ex_bin (u := (.int .i64 q)) (r := (.int .i64 0)) rfl rfl rfl (eg35 _ _ _ _ _ _) (eql35 _ (decide_eq_false hq))) ?_
    simp only [Act.put, List.setIfInBounds_toArray, List.set_cons_zero, List.set_cons_succ]
    refine st_to (v := (.bool false)) (some 16) rfl rfl (ex_mv rfl rfl) ?_
    simp only [Act.put, List.setIfInBounds_toArray, List.set_cons_zero, List.set_cons_succ]
    refine st_no (some 17) rfl rfl ?_
    simp only [Act.put, List.setIfInBounds_toArray, List.set_cons_zero, List.set_cons_succ]
    refine st_no (some 18) rfl rfl ?_
    simp only [Act.put, List.setIfInBounds_toArray, List.set_cons_zero, List.set_cons_succ]
    refine st_no (some 19) rfl rfl ?_
    simp only [Act.put, List.setIfInBounds_toArray, List.set_cons_zero, List.set_cons_succ]
    refine st_no (some 20) rfl rfl ?_
    simp only [Act.put, List.setIfInBounds_toArray, List.set_cons_zero, List.set_cons_succ]
    refine st_no (some 21) rfl rfl ?_
    simp only [Act.put, List.setIfInBounds_toArray, List.set_cons_zero, List.set_cons_succ]
    refine st_no (some 22) rfl rfl ?_
    simp only [Act.put, List.setIfInBounds_toArray, List.set_cons_zero, List.set_cons_succ]
    refine st_no (some 23) rfl rfl ?_
    simp only [Act.put, List.setIfInBounds_toArray, List.set_cons_zero, List.set_cons_succ]
    refine st_no (some 24) rfl rfl ?_
    simp only [Act.put, List.setIfInBounds_toArray, List.set_cons_zero, List.set_cons_succ]
    refine st_to (v := (.bool false)) (some 25) rfl rfl (ex_pkF rfl rfl rfl) ?_
    simp only [Act.put, List.setIfInBounds_toArray, List.set_cons_zero, List.set_cons_succ]
    refine st_to (v := (.bool false)) (some 26) rfl rfl (ex_mv rfl rfl) ?_
    simp only [Act.put, List.setIfInBounds_toArray, List.set_cons_zero, List.set_cons_succ]
    refine st_no (some 27) rfl rfl ?_
    simp only [Act.put, List.setIfInBounds_toArray, List.set_cons_zero, List.set_cons_succ]
    refine st_no (some 28) rfl rfl ?_
    simp only [Act.put, List.setIfInBounds_toArray, List.set_cons_zero, List.set_cons_succ]
    refine st_no (some 29) rfl rfl ?_
    simp only [Act.put, List.setIfInBounds_toArray, List.set_cons_zero, List.set_cons_succ]
    refine st_to (v := (.bool false)) (some 30) rfl rfl (ex_pkF rfl rfl rfl) ?_
    simp only [Act.put, List.setIfInBounds_toArray, List.set_cons_zero, List.set_cons_succ]
    refine st_to (v := (.bool false)) (some 31) rfl rfl (ex_mv rfl rfl) ?_
    simp only [Act.put, List.setIfInBounds_toArray, List.set_cons_zero, List.set_cons_succ]
    refine st_no (some 32) rfl rfl ?_
    simp only [Act.put, List.setIfInBounds_toArray, List.set_cons_zero, List.set_cons_succ]
    refine st_no (some 33) rfl rfl ?_
    simp only [Act.put, List.setIfInBounds_toArray, List.set_cons_zero, List.set_cons_succ]
    refine st_no (some 34) rfl rfl ?_
    simp only [Act.put, List.setIfInBounds_toArray, List.set_cons_zero, List.set_cons_succ]
    refine st_to (v := (.bool false)) (some 35) rfl rfl (ex_pkF rfl rfl rfl) ?_
    simp only [Act.put, List.setIfInBounds_toArray, List.set_cons_zero, List.set_cons_succ]
    refine st_to (v := (.bool false)) (some 36) rfl rfl (ex_mv rfl rfl) ?_
    simp only [Act.put, List.setIfInBounds_toArray, List.set_cons_zero, List.set_cons_succ]
    refine st_no (some 37) rfl rfl ?_
    simp only [Act.put, List.setIfInBounds_toArray, List.set_cons_zero, List.set_cons_succ]
    refine st_no (some 38) rfl rfl ?_
    simp only [Act.put, List.setIfInBounds_toArray, List.set_cons_zero, List.set_cons_succ]
    refine st_no (some 39) rfl rfl ?_
    simp only [Act.put, List.setIfInBounds_toArray, List.set_cons_zero, List.set_cons_succ]
    refine st_to (v := (.bool false)) (some 40) rfl rfl (ex_pkF rfl rfl rfl) ?_
    simp only [Act.put, List.setIfInBounds_toArray, List.set_cons_zero, List.set_cons_succ]
    refine st_to (v := (.bool false)) (some 41) rfl rfl (ex_mv rfl rfl) ?_
    simp only [Act.put, List.setIfInBounds_toArray, List.set_cons_zero, List.set_cons_succ]
    refine st_no (some 42) rfl rfl ?_
    simp only [Act.put, List.setIfInBounds_toArray, List.set_cons_zero, List.set_cons_succ]
    refine st_no (some 43) rfl rfl ?_
    simp only [Act.put, List.setIfInBounds_toArray, List.set_cons_zero, List.set_cons_succ]
    refine st_no (some 44) rfl rfl ?_
    simp only [Act.put, List.setIfInBounds_toArray, List.set_cons_zero, List.set_cons_succ]
    refine st_no (some 45) rfl rfl ?_
    simp only [Act.put, List.setIfInBounds_toArray, List.set_cons_zero, List.set_cons_succ]
    refine st_no (some 46) rfl rfl ?_
    simp only [Act.put, List.setIfInBounds_toArray, List.set_cons_zero, List.set_cons_succ]
    refine st_to (v := (.bool false)) (some 47) rfl rfl (ex_pkF rfl rfl rfl) ?_
    simp only [Act.put, List.setIfInBounds_toArray, List.set_cons_zero, List.set_cons_succ]
    refine st_to (v := (.bool false)) (some 48) rfl rfl (ex_mv rfl rfl) ?_
    simp only [Act.put, List.setIfInBounds_toArray, List.set_cons_zero, List.set_cons_succ]
    refine st_no (some 49) rfl rfl ?_
    simp only [Act.put, List.setIfInBounds_toArray, List.set_cons_zero, List.set_cons_succ]
    refine st_no (some 50) rfl rfl ?_
    simp only [Act.put, List.setIfInBounds_toArray, List.set_cons_zero, List.set_cons_succ]
    refine st_no (some 51) rfl rfl ?_
    simp only [Act.put, List.setIfInBounds_toArray, List.set_cons_zero, List.set_cons_succ]
    refine st_to (v := (.bool false)) (some 52) rfl rfl (ex_pkF rfl rfl rfl) ?_
    simp only [Act.put, List.setIfInBounds_toArray, List.set_cons_zero, List.set_cons_succ]
    refine st_to (v := (.bool false)) (some 53) rfl rfl (ex_mv rfl rfl) ?_
    simp only [Act.put, List.setIfInBounds_toArray, List.set_cons_zero, List.set_cons_succ]
    refine st_no (some 54) rfl rfl ?_
    simp only [Act.put, List.setIfInBounds_toArray, List.set_cons_zero, List.set_cons_succ]
    refine st_no (some 55) rfl rfl ?_
    simp only [Act.put, List.setIfInBounds_toArray, List.set_cons_zero, List.set_cons_succ]
    refine st_no (some 56) rfl rfl ?_
    simp only [Act.put, List.setIfInBounds_toArray, List.set_cons_zero, List.set_cons_succ]
    refine st_no (some 57) rfl rfl ?_
    simp only [Act.put, List.setIfInBounds_toArray, List.set_cons_zero, List.set_cons_succ]
    refine st_to (v := (.bool false)) (some 58) rfl rfl (ex_pkF rfl rfl rfl) ?_
    simp only [Act.put, List.setIfInBounds_toArray, List.set_cons_zero, List.set_cons_succ]
    refine st_to (v := (.bool false)) (some 59) rfl rfl (ex_mv rfl rfl) ?_
    simp only [Act.put, List.setIfInBounds_toArray, List.set_cons_zero, List.set_cons_succ]
    refine st_no (some 60) rfl rfl ?_
    simp only [Act.put, List.setIfInBounds_toArray, List.set_cons_zero, List.set_cons_succ]
    refine st_no (some 61) rfl rfl ?_
    simp only [Act.put, List.setIfInBounds_toArray, List.set_cons_zero, List.set_cons_succ]
    refine st_no (some 62) rfl rfl ?_
    simp only [Act.put, List.setIfInBounds_toArray, List.set_cons_zero, List.set_cons_succ]
    refine st_to (v := (.bool false)) (some 63) rfl rfl (ex_pkF rfl rfl rfl) ?_
    simp only [Act.put, List.setIfInBounds_toArray, List.set_cons_zero, List.set_cons_succ]
    refine st_to (v := (.bool false)) (some 64) rfl rfl (ex_mv rfl rfl) ?_
    simp only [Act.put, List.setIfInBounds_toArray, List.set_cons_zero, List.set_cons_succ]
    refine st_no (some 65) rfl rfl ?_
    simp only [Act.put, List.setIfInBounds_toArray, List.set_cons_zero, List.set_cons_succ]
    refine st_no (some 66) rfl rfl ?_
    simp only [Act.put, List.setIfInBounds_toArray, List.set_cons_zero, List.set_cons_succ]
    refine st_no (some 67) rfl rfl ?_
    simp only [Act.put, List.setIfInBounds_toArray, List.set_cons_zero, List.set_cons_succ]
    refine st_to (v := (.bool false)) (some 68) rfl rfl (ex_pkF rfl rfl rfl) ?_
    simp only [Act.put, List.setIfInBounds_toArray, List.set_cons_zero, List.set_cons_succ]
    refine st_to (v := (.bool false)) (some 69) rfl rfl (ex_mv rfl rfl) ?_
    simp only [Act.put, List.setIfInBounds_toArray, List.set_cons_zero, List.set_cons_succ]
    refine st_no (some 70) rfl rfl ?_
    simp only [Act.put, List.setIfInBounds_toArray, List.set_cons_zero, List.set_cons_succ]
    refine st_no (some 71) rfl rfl ?_
    simp only [Act.put, List.setIfInBounds_toArray, List.set_cons_zero, List.set_cons_succ]
    refine st_no (some 72) rfl rfl ?_
    simp only [Act.put, List.setIfInBounds_toArray, List.set_cons_zero, List.set_cons_succ]
    refine st_to (v := (.bool false)) (some 73) rfl rfl (ex_pkF rfl rfl rfl) ?_
    simp only [Act.put, List.setIfInBounds_toArray, List.set_cons_zero, List.set_cons_succ]
    refine st_to (v := (.bool false)) (some 74) rfl rfl (ex_mv rfl rfl) ?_
    simp only [Act.put, List.setIfInBounds_toArray, List.set_cons_zero, List.set_cons_succ]
    refine st_no (some 75) rfl rfl ?_
    simp only [Act.put, List.setIfInBounds_toArray, List.set_cons_zero, List.set_cons_succ]
    refine st_no (some 76) rfl rfl ?_
    simp only [Act.put, List.setIfInBounds_toArray, List.set_cons_zero, List.set_cons_succ]
    refine st_no (some 77) rfl rfl ?_
    simp only [Act.put, List.setIfInBounds_toArray, List.set_cons_zero, List.set_cons_succ]
    refine st_to (v := (.bool false)) (some 78) rfl rfl (ex_pkF rfl rfl rfl) ?_
    simp only [Act.put, List.setIfInBounds_toArray, List.set_cons_zero, List.set_cons_succ]
    refine st_to (v := (.bool false)) (some 2) rfl rfl (ex_asg rfl rfl) ?_
    simp only [Act.put, List.setIfInBounds_toArray, List.set_cons_zero, List.set_cons_succ]
    refine st_end ?_
    subst hQ
    refine wp_ret ?_
    refine bodyPost_ret (results_tmp Try.results12 _ _ _) rfl ⟨?_, E⟩
    show Ending.returned (.bool false) = _
    rw [decide_eq_false (fun h => c1 h.1)]
  by_cases c2 : 0 ≤ t.fee ∧ 0 ≤ t.res ∧ 0 ≤ t.fl
  rotate_left
  · skip
    have E : Below w.heap.size w w := Below.refl _ _
    go_enter Try.func12, Try.ntmps12
    refine wp_seq ?_
    refine wl_in ?_
    refine wl_cap fun Q hQ => ?_
    refine st_new (fun b => .pointer (some ⟨b, 0, none⟩)) (some 1) rfl rfl (ex_box rfl rfl) ?_
    intro b1 W1 k1 g1 B
    simp only [Act.put, List.setIfInBounds_toArray, List.set_cons_zero, List.set_cons_succ]
    have ge_b1 := Nat.le_trans E.size g1
    replace E := below_next E B
    clear B
    refine st_to (v := (.bool false)) (some 2) rfl rfl (ex_asg rfl rfl) ?_
    simp only [Act.put, List.setIfInBounds_toArray, List.set_cons_zero, List.set_cons_succ]
    refine st_end ?_
    subst hQ
    refine wp_seq ?_
    refine wl_in ?_
    refine wl_cap fun Q hQ => ?_
    refine st_to (v := (.pointer (some ⟨b1, 36, none⟩))) (some 6) rfl rfl (ex_fa (p := (.pointer (some ⟨b1, 0, none⟩))) rfl rfl (fa26_4 _ _)) ?_
    simp only [Act.put, List.setIfInBounds_toArray, List.set_cons_zero, List.set_cons_succ]
    refine st_to (v := (.int .i64 t.sa)) (some 7) rfl rfl (ex_load (p := (.pointer (some ⟨b1, 36, none⟩))) rfl rfl (ld3 (at_cell k1 hT.c36))) ?_
    simp only [Act.put, List.setIfInBounds_toArray, List.set_cons_zero, List.set_cons_succ]
    refine st_to (v := (.pointer (some ⟨b1, 37, none⟩))) (some 8) rfl rfl (ex_fa (p := (.pointer (some ⟨b1, 0, none⟩))) rfl rfl (fa26_5 _ _)) ?_
    simp only [Act.put, List.setIfInBounds_toArray, List.set_cons_zero, List.set_cons_succ]
    refine st_to (v := (.int .i64 t.sb)) (some 9) rfl rfl (ex_load (p := (.pointer (some ⟨b1, 37, none⟩))) rfl rfl (ld3 (at_cell k1 hT.c37))) ?_
    simp only [Act.put, List.setIfInBounds_toArray, List.set_cons_zero, List.set_cons_succ]
    refine st_new (fun b => .slice (some ⟨b, 0, none⟩) 2 2) (some 10) rfl rfl (ex_bsl2 (u := (.int .i64 t.sa)) (r := (.int .i64 t.sb)) rfl rfl rfl (bs82_2 _ _ _)) ?_
    intro b2 W2 k2 g2 B
    simp only [Act.put, List.setIfInBounds_toArray, List.set_cons_zero, List.set_cons_succ]
    have ne_b2_b1 : b2 ≠ b1 := fun e => by have := lt_of k1; omega
    have ge_b2 := Nat.le_trans E.size g2
    replace E := below_next E B
    replace k1 := keep B k1
    clear B
    refine st_call (some 11) rfl rfl (sum2_ok k2 c1) (ex_call (f := 34) (vs := [(.slice (some ⟨b2, 0, none⟩) 2 2)]) rfl (cf34 _) rfl) ?_
    rintro e W3 ⟨rfl, B⟩
    refine ⟨_, rfl, ?_⟩
    simp only [Act.put, List.setIfInBounds_toArray, List.set_cons_zero, List.set_cons_succ]
    replace E := below_next E B
    replace k1 := keep B k1
    replace k2 := keep B k2
    refine st_to (v := (.tuple #[(.int .i64 (t.sa + t.sb)), (.int .i64 0)])) (some 5) rfl rfl (ex_mv rfl rfl) ?_
    simp only [Act.put, List.setIfInBounds_toArray, List.set_cons_zero, List.set_cons_succ]
    refine st_to (v := (.int .i64 (t.sa + t.sb))) (some 12) rfl rfl (ex_ext rfl rfl rfl) ?_
    simp only [Act.put, List.setIfInBounds_toArray, List.set_cons_zero, List.set_cons_succ]
    refine st_to (v := (.int .i64 0)) (some 13) rfl rfl (ex_ext rfl rfl rfl) ?_
    simp only [Act.put, List.setIfInBounds_toArray, List.set_cons_zero, List.set_cons_succ]
    refine st_to (v := (.int .i64 (t.sa + t.sb))) (some 3) rfl rfl (ex_asg rfl rfl) ?_
    simp only [Act.put, List.setIfInBounds_toArray, List.set_cons_zero, List.set_cons_succ]
    refine st_to (v := (.int .i64 0)) (some 4) rfl rfl (ex_asg rfl rfl) ?_
    simp only [Act.put, List.setIfInBounds_toArray, List.set_cons_zero, List.set_cons_succ]
    refine st_end ?_
    subst hQ
    refine wp_seq ?_
    refine wl_in ?_
    refine wl_cap fun Q hQ => ?_
    refine st_to (v := (.int .i64 0)) (some 14) rfl rfl (ex_mv rfl rfl) ?_
    simp only [Act.put, List.setIfInBounds_toArray, List.set_cons_zero, List.set_cons_succ]
    refine st_to (v := (.bool true)) (some 15) rfl rfl (ex_bin (u := (.int .i64 0)) (r := (.int .i64 0)) rfl rfl rfl (eg35 _ _ _ _ _ _) (eql35 _ (by decide))) ?_
    simp only [Act.put, List.setIfInBounds_toArray, List.set_cons_zero, List.set_cons_succ]
    refine st_to (v := (.bool true)) (some 16) rfl rfl (ex_mv rfl rfl) ?_
    simp only [Act.put, List.setIfInBounds_toArray, List.set_cons_zero, List.set_cons_succ]
    refine st_to (v := (.pointer (some ⟨b1, 39, none⟩))) (some 17) rfl rfl (ex_fa (p := (.pointer (some ⟨b1, 0, none⟩))) rfl rfl (fa26_7 _ _)) ?_
    simp only [Act.put, List.setIfInBounds_toArray, List.set_cons_zero, List.set_cons_succ]
    refine st_to (v := (.int .i64 t.fee)) (some 18) rfl rfl (ex_load (p := (.pointer (some ⟨b1, 39, none⟩))) rfl rfl (ld3 (at_cell k1 hT.c39))) ?_
    simp only [Act.put, List.setIfInBounds_toArray, List.set_cons_zero, List.set_cons_succ]
    refine st_to (v := (.pointer (some ⟨b1, 40, none⟩))) (some 19) rfl rfl (ex_fa (p := (.pointer (some ⟨b1, 0, none⟩))) rfl rfl (fa26_8 _ _)) ?_
    simp only [Act.put, List.setIfInBounds_toArray, List.set_cons_zero, List.set_cons_succ]
    refine st_to (v := (.int .i64 t.res)) (some 20) rfl rfl (ex_load (p := (.pointer (some ⟨b1, 40, none⟩))) rfl rfl (ld3 (at_cell k1 hT.c40))) ?_
    simp only [Act.put, List.setIfInBounds_toArray, List.set_cons_zero, List.set_cons_succ]
    refine st_to (v := (.pointer (some ⟨b1, 42, none⟩))) (some 21) rfl rfl (ex_fa (p := (.pointer (some ⟨b1, 0, none⟩))) rfl rfl (fa26_10 _ _)) ?_
    simp only [Act.put, List.setIfInBounds_toArray, List.set_cons_zero, List.set_cons_succ]
    refine st_to (v := (.int .i64 t.fl)) (some 22) rfl rfl (ex_load (p := (.pointer (some ⟨b1, 42, none⟩))) rfl rfl (ld3 (at_cell k1 hT.c42))) ?_
    simp only [Act.put, List.setIfInBounds_toArray, List.set_cons_zero, List.set_cons_succ]
    refine st_new (fun b => .slice (some ⟨b, 0, none⟩) 3 3) (some 23) rfl rfl (ex_bsl3 (u := (.int .i64 t.fee)) (r := (.int .i64 t.res)) (s := (.int .i64 t.fl)) rfl rfl rfl rfl (bs82_3 _ _ _ _)) ?_
    intro b3 W4 k3 g3 B
    simp only [Act.put, List.setIfInBounds_toArray, List.set_cons_zero, List.set_cons_succ]
    have ne_b3_b1 : b3 ≠ b1 := fun e => by have := lt_of k1; omega
    have ne_b3_b2 : b3 ≠ b2 := fun e => by have := lt_of k2; omega
    have ge_b3 := Nat.le_trans E.size g3
    replace E := below_next E B
    replace k1 := keep B k1
    replace k2 := keep B k2
    clear B
    refine st_call (some 24) rfl rfl (areAm k3 hb.fee hb.res hb.fl (decide_eq_false c2)) (ex_call (f := 35) (vs := [(.slice (some ⟨b3, 0, none⟩) 3 3)]) rfl (cf35 _) rfl) ?_
    rintro e W5 ⟨rfl, B⟩
    refine ⟨_, rfl, ?_⟩
    simp only [Act.put, List.setIfInBounds_toArray, List.set_cons_zero, List.set_cons_succ]
    replace E := below_next E B
    replace k1 := keep B k1
    replace k2 := keep B k2
    replace k3 := keep B k3
    refine st_to (v := (.bool false)) (some 25) rfl rfl (ex_pkT rfl rfl rfl) ?_
    simp only [Act.put, List.setIfInBounds_toArray, List.set_cons_zero, List.set_cons_succ]
    refine st_to (v := (.bool false)) (some 26) rfl rfl (ex_mv rfl rfl) ?_
    simp only [Act.put, List.setIfInBounds_toArray, List.set_cons_zero, List.set_cons_succ]
    refine st_no (some 27) rfl rfl ?_
    simp only [Act.put, List.setIfInBounds_toArray, List.set_cons_zero, List.set_cons_succ]
    refine st_no (some 28) rfl rfl ?_
    simp only [Act.put, List.setIfInBounds_toArray, List.set_cons_zero, List.set_cons_succ]
    refine st_no (some 29) rfl rfl ?_
    simp only [Act.put, List.setIfInBounds_toArray, List.set_cons_zero, List.set_cons_succ]
    refine st_to (v := (.bool false)) (some 30) rfl rfl (ex_pkF rfl rfl rfl) ?_
    simp only [Act.put, List.setIfInBounds_toArray, List.set_cons_zero, List.set_cons_succ]
    refine st_to (v := (.bool false)) (some 31) rfl rfl (ex_mv rfl rfl) ?_
    simp only [Act.put, List.setIfInBounds_toArray, List.set_cons_zero, List.set_cons_succ]
    refine st_no (some 32) rfl rfl ?_
    simp only [Act.put, List.setIfInBounds_toArray, List.set_cons_zero, List.set_cons_succ]
    refine st_no (some 33) rfl rfl ?_
    simp only [Act.put, List.setIfInBounds_toArray, List.set_cons_zero, List.set_cons_succ]
    refine st_no (some 34) rfl rfl ?_
    simp only [Act.put, List.setIfInBounds_toArray, List.set_cons_zero, List.set_cons_succ]
    refine st_to (v := (.bool false)) (some 35) rfl rfl (ex_pkF rfl rfl rfl) ?_
    simp only [Act.put, List.setIfInBounds_toArray, List.set_cons_zero, List.set_cons_succ]
    refine st_to (v := (.bool false)) (some 36) rfl rfl (ex_mv rfl rfl) ?_
    simp only [Act.put, List.setIfInBounds_toArray, List.set_cons_zero, List.set_cons_succ]
    refine st_no (some 37) rfl rfl ?_
    simp only [Act.put, List.setIfInBounds_toArray, List.set_cons_zero, List.set_cons_succ]
    refine st_no (some 38) rfl rfl ?_
    simp only [Act.put, List.setIfInBounds_toArray, List.set_cons_zero, List.set_cons_succ]
    refine st_no (some 39) rfl rfl ?_
    simp only [Act.put, List.setIfInBounds_toArray, List.set_cons_zero, List.set_cons_succ]
    refine st_to (v := (.bool false)) (some 40) rfl rfl (ex_pkF rfl rfl rfl) ?_
    simp only [Act.put, List.setIfInBounds_toArray, List.set_cons_zero, List.set_cons_succ]
    refine st_to (v := (.bool false)) (some 41) rfl rfl (ex_mv rfl rfl) ?_
    simp only [Act.put, List.setIfInBounds_toArray, List.set_cons_zero, List.set_cons_succ]
    refine st_no (some 42) rfl rfl ?_
    simp only [Act.put, List.setIfInBounds_toArray, List.set_cons_zero, List.set_cons_succ]
    refine st_no (some 43) rfl rfl ?_
    simp only [Act.put, List.setIfInBounds_toArray, List.set_cons_zero, List.set_cons_succ]
    refine st_no (some 44) rfl rfl ?_
    simp only [Act.put, List.setIfInBounds_toArray, List.set_cons_zero, List.set_cons_succ]
    refine st_no (some 45) rfl rfl ?_
    simp only [Act.put, List.setIfInBounds_toArray, List.set_cons_zero, List.set_cons_succ]
    refine st_no (some 46) rfl rfl ?_
    simp only [Act.put, List.setIfInBounds_toArray, List.set_cons_zero, List.set_cons_succ]
    refine st_to (v := (.bool false)) (some 47) rfl rfl (ex_pkF rfl rfl rfl) ?_
    simp only [Act.put, List.setIfInBounds_toArray, List.set_cons_zero, List.set_cons_succ]
    refine st_to (v := (.bool false)) (some 48) rfl rfl (ex_mv rfl rfl) ?_
    simp only [Act.put, List.setIfInBounds_toArray, List.set_cons_zero, List.set_cons_succ]
    refine st_no (some 49) rfl rfl ?_
    simp only [Act.put, List.setIfInBounds_toArray, List.set_cons_zero, List.set_cons_succ]
    refine st_no (some 50) rfl rfl ?_
    simp only [Act.put, List.setIfInBounds_toArray, List.set_cons_zero, List.set_cons_succ]
    refine st_no (some 51) rfl rfl ?_
    simp only [Act.put, List.setIfInBounds_toArray, List.set_cons_zero, List.set_cons_succ]
    refine st_to (v := (.bool false)) (some 52) rfl rfl (ex_pkF rfl rfl rfl) ?_
    simp only [Act.put, List.setIfInBounds_toArray, List.set_cons_zero, List.set_cons_succ]
    refine st_to (v := (.bool false)) (some 53) rfl rfl (ex_mv rfl rfl) ?_
    simp only [Act.put, List.setIfInBounds_toArray, List.set_cons_zero, List.set_cons_succ]
    refine st_no (some 54) rfl rfl ?_
    simp only [Act.put, List.setIfInBounds_toArray, List.set_cons_zero, List.set_cons_succ]
    refine st_no (some 55) rfl rfl ?_
    simp only [Act.put, List.setIfInBounds_toArray, List.set_cons_zero, List.set_cons_succ]
    refine st_no (some 56) rfl rfl ?_
    simp only [Act.put, List.setIfInBounds_toArray, List.set_cons_zero, List.set_cons_succ]
    refine st_no (some 57) rfl rfl ?_
    simp only [Act.put, List.setIfInBounds_toArray, List.set_cons_zero, List.set_cons_succ]
    refine st_to (v := (.bool false)) (some 58) rfl rfl (ex_pkF rfl rfl rfl) ?_
    simp only [Act.put, List.setIfInBounds_toArray, List.set_cons_zero, List.set_cons_succ]
    refine st_to (v := (.bool false)) (some 59) rfl rfl (ex_mv rfl rfl) ?_
    simp only [Act.put, List.setIfInBounds_toArray, List.set_cons_zero, List.set_cons_succ]
    refine st_no (some 60) rfl rfl ?_
    simp only [Act.put, List.setIfInBounds_toArray, List.set_cons_zero, List.set_cons_succ]
    refine st_no (some 61) rfl rfl ?_
    simp only [Act.put, List.setIfInBounds_toArray, List.set_cons_zero, List.set_cons_succ]
    refine st_no (some 62) rfl rfl ?_
    simp only [Act.put, List.setIfInBounds_toArray, List.set_cons_zero, List.set_cons_succ]
    refine st_to (v := (.bool false)) (some 63) rfl rfl (ex_pkF rfl rfl rfl) ?_
    simp only [Act.put, List.setIfInBounds_toArray, List.set_cons_zero, List.set_cons_succ]
    refine st_to (v := (.bool false)) (some 64) rfl rfl (ex_mv rfl rfl) ?_
    simp only [Act.put, List.setIfInBounds_toArray, List.set_cons_zero, List.set_cons_succ]
    refine st_no (some 65) rfl rfl ?_
    simp only [Act.put, List.setIfInBounds_toArray, List.set_cons_zero, List.set_cons_succ]
    refine st_no (some 66) rfl rfl ?_
    simp only [Act.put, List.setIfInBounds_toArray, List.set_cons_zero, List.set_cons_succ]
    refine st_no (some 67) rfl rfl ?_
    simp only [Act.put, List.setIfInBounds_toArray, List.set_cons_zero, List.set_cons_succ]
    refine st_to (v := (.bool false)) (some 68) rfl rfl (ex_pkF rfl rfl rfl) ?_
    simp only [Act.put, List.setIfInBounds_toArray, List.set_cons_zero, List.set_cons_succ]
    refine st_to (v := (.bool false)) (some 69) rfl rfl (ex_mv rfl rfl) ?_
    simp only [Act.put, List.setIfInBounds_toArray, List.set_cons_zero, List.set_cons_succ]
    refine st_no (some 70) rfl rfl ?_
    simp only [Act.put, List.setIfInBounds_toArray, List.set_cons_zero, List.set_cons_succ]
    refine st_no (some 71) rfl rfl ?_
    simp only [Act.put, List.setIfInBounds_toArray, List.set_cons_zero, List.set_cons_succ]
    refine st_no (some 72) rfl rfl ?_
    simp only [Act.put, List.setIfInBounds_toArray, List.set_cons_zero, List.set_cons_succ]
    refine st_to (v := (.bool false)) (some 73) rfl rfl (ex_pkF rfl rfl rfl) ?_
    simp only [Act.put, List.setIfInBounds_toArray, List.set_cons_zero, List.set_cons_succ]
    refine st_to (v := (.bool false)) (some 74) rfl rfl (ex_mv rfl rfl) ?_
    simp only [Act.put, List.setIfInBounds_toArray, List.set_cons_zero, List.set_cons_succ]
    refine st_no (some 75) rfl rfl ?_
    simp only [Act.put, List.setIfInBounds_toArray, List.set_cons_zero, List.set_cons_succ]
    refine st_no (some 76) rfl rfl ?_
    simp only [Act.put, List.setIfInBounds_toArray, List.set_cons_zero, List.set_cons_succ]
    refine st_no (some 77) rfl rfl ?_
    simp only [Act.put, List.setIfInBounds_toArray, List.set_cons_zero, List.set_cons_succ]
    refine st_to (v := (.bool false)) (some 78) rfl rfl (ex_pkF rfl rfl rfl) ?_
    simp only [Act.put, List.setIfInBounds_toArray, List.set_cons_zero, List.set_cons_succ]
    refine st_to (v := (.bool false)) (some 2) rfl rfl (ex_asg rfl rfl) ?_
    simp only [Act.put, List.setIfInBounds_toArray, List.set_cons_zero, List.set_cons_succ]
    refine st_end ?_
    subst hQ
    refine wp_ret ?_
    refine bodyPost_ret (results_tmp Try.results12 _ _ _) rfl ⟨?_, E⟩
    show Ending.returned (.bool false) = _
    rw [decide_eq_false (fun h => c2 h.2.1)]
  by_cases c3 : 1 ≤ t.ch
  rotate_left
  · skip
    have E : Below w.heap.size w w := Below.refl _ _
    go_enter Try.func12, Try.ntmps12
    refine wp_seq ?_
    refine wl_in ?_
    refine wl_cap fun Q hQ => ?_
    refine st_new (fun b => .pointer (some ⟨b, 0, none⟩)) (some 1) rfl rfl (ex_box rfl rfl) ?_
    intro b1 W1 k1 g1 B
    simp only [Act.put, List.setIfInBounds_toArray, List.set_cons_zero, List.set_cons_succ]
    have ge_b1 := Nat.le_trans E.size g1
    replace E := below_next E B
    clear B
    refine st_to (v := (.bool false)) (some 2) rfl rfl (ex_asg rfl rfl) ?_
    simp only [Act.put, List.setIfInBounds_toArray, List.set_cons_zero, List.set_cons_succ]
    refine st_end ?_
    subst hQ
    refine wp_seq ?_
    refine wl_in ?_
    refine wl_cap fun Q hQ => ?_
    refine st_to (v := (.pointer (some ⟨b1, 36, none⟩))) (some 6) rfl rfl (ex_fa (p := (.pointer (some ⟨b1, 0, none⟩))) rfl rfl (fa26_4 _ _)) ?_
    simp only [Act.put, List.setIfInBounds_toArray, List.set_cons_zero, List.set_cons_succ]
    refine st_to (v := (.int .i64 t.sa)) (some 7) rfl rfl (ex_load (p := (.pointer (some ⟨b1, 36, none⟩))) rfl rfl (ld3 (at_cell k1 hT.c36))) ?_
    simp only [Act.put, List.setIfInBounds_toArray, List.set_cons_zero, List.set_cons_succ]
    refine st_to (v := (.pointer (some ⟨b1, 37, none⟩))) (some 8) rfl rfl (ex_fa (p := (.pointer (some ⟨b1, 0, none⟩))) rfl rfl (fa26_5 _ _)) ?_
    simp only [Act.put, List.setIfInBounds_toArray, List.set_cons_zero, List.set_cons_succ]
    refine st_to (v := (.int .i64 t.sb)) (some 9) rfl rfl (ex_load (p := (.pointer (some ⟨b1, 37, none⟩))) rfl rfl (ld3 (at_cell k1 hT.c37))) ?_
    simp only [Act.put, List.setIfInBounds_toArray, List.set_cons_zero, List.set_cons_succ]
    refine st_new (fun b => .slice (some ⟨b, 0, none⟩) 2 2) (some 10) rfl rfl (ex_bsl2 (u := (.int .i64 t.sa)) (r := (.int .i64 t.sb)) rfl rfl rfl (bs82_2 _ _ _)) ?_
    intro b2 W2 k2 g2 B
    simp only [Act.put, List.setIfInBounds_toArray, List.set_cons_zero, List.set_cons_succ]
    have ne_b2_b1 : b2 ≠ b1 := fun e => by have := lt_of k1; omega
    have ge_b2 := Nat.le_trans E.size g2
    replace E := below_next E B
    replace k1 := keep B k1
    clear B
    refine st_call (some 11) rfl rfl (sum2_ok k2 c1) (ex_call (f := 34) (vs := [(.slice (some ⟨b2, 0, none⟩) 2 2)]) rfl (cf34 _) rfl) ?_
    rintro e W3 ⟨rfl, B⟩
    refine ⟨_, rfl, ?_⟩
    simp only [Act.put, List.setIfInBounds_toArray, List.set_cons_zero, List.set_cons_succ]
    replace E := below_next E B
    replace k1 := keep B k1
    replace k2 := keep B k2
    refine st_to (v := (.tuple #[(.int .i64 (t.sa + t.sb)), (.int .i64 0)])) (some 5) rfl rfl (ex_mv rfl rfl) ?_
    simp only [Act.put, List.setIfInBounds_toArray, List.set_cons_zero, List.set_cons_succ]
    refine st_to (v := (.int .i64 (t.sa + t.sb))) (some 12) rfl rfl (ex_ext rfl rfl rfl) ?_
    simp only [Act.put, List.setIfInBounds_toArray, List.set_cons_zero, List.set_cons_succ]
    refine st_to (v := (.int .i64 0)) (some 13) rfl rfl (ex_ext rfl rfl rfl) ?_
    simp only [Act.put, List.setIfInBounds_toArray, List.set_cons_zero, List.set_cons_succ]
    refine st_to (v := (.int .i64 (t.sa + t.sb))) (some 3) rfl rfl (ex_asg rfl rfl) ?_
    simp only [Act.put, List.setIfInBounds_toArray, List.set_cons_zero, List.set_cons_succ]
    refine st_to (v := (.int .i64 0)) (some 4) rfl rfl (ex_asg rfl rfl) ?_
    simp only [Act.put, List.setIfInBounds_toArray, List.set_cons_zero, List.set_cons_succ]
    refine st_end ?_
    subst hQ
    refine wp_seq ?_
    refine wl_in ?_
    refine wl_cap fun Q hQ => ?_
    refine st_to (v := (.int .i64 0)) (some 14) rfl rfl (ex_mv rfl rfl) ?_
    simp only [Act.put, List.setIfInBounds_toArray, List.set_cons_zero, List.set_cons_succ]
    refine st_to (v := (.bool true)) (some 15) rfl rfl (ex_bin (u := (.int .i64 0)) (r := (.int .i64 0)) rfl rfl rfl (eg35 _ _ _ _ _ _) (eql35 _ (by decide))) ?_
    simp only [Act.put, List.setIfInBounds_toArray, List.set_cons_zero, List.set_cons_succ]
    refine st_to (v := (.bool true)) (some 16) rfl rfl (ex_mv rfl rfl) ?_
    simp only [Act.put, List.setIfInBounds_toArray, List.set_cons_zero, List.set_cons_succ]
    refine st_to (v := (.pointer (some ⟨b1, 39, none⟩))) (some 17) rfl rfl (ex_fa (p := (.pointer (some ⟨b1, 0, none⟩))) rfl rfl (fa26_7 _ _)) ?_
    simp only [Act.put, List.setIfInBounds_toArray, List.set_cons_zero, List.set_cons_succ]
    refine st_to (v := (.int .i64 t.fee)) (some 18) rfl rfl (ex_load (p := (.pointer (some ⟨b1, 39, none⟩))) rfl rfl (ld3 (at_cell k1 hT.c39))) ?_
    simp only [Act.put, List.setIfInBounds_toArray, List.set_cons_zero, List.set_cons_succ]
    refine st_to (v := (.pointer (some ⟨b1, 40, none⟩))) (some 19) rfl rfl (ex_fa (p := (.pointer (some ⟨b1, 0, none⟩))) rfl rfl (fa26_8 _ _)) ?_
    simp only [Act.put, List.setIfInBounds_toArray, List.set_cons_zero, List.set_cons_succ]
    refine st_to (v := (.int .i64 t.res)) (some 20) rfl rfl (ex_load (p := (.pointer (some ⟨b1, 40, none⟩))) rfl rfl (ld3 (at_cell k1 hT.c40))) ?_
    simp only [Act.put, List.setIfInBounds_toArray, List.set_cons_zero, List.set_cons_succ]
    refine st_to (v := (.pointer (some ⟨b1, 42, none⟩))) (some 21) rfl rfl (ex_fa (p := (.pointer (some ⟨b1, 0, none⟩))) rfl rfl (fa26_10 _ _)) ?_
    simp only [Act.put, List.setIfInBounds_toArray, List.set_cons_zero, List.set_cons_succ]
    refine st_to (v := (.int .i64 t.fl)) (some 22) rfl rfl (ex_load (p := (.pointer (some ⟨b1, 42, none⟩))) rfl rfl (ld3 (at_cell k1 hT.c42))) ?_
    simp only [Act.put, List.setIfInBounds_toArray, List.set_cons_zero, List.set_cons_succ]
    refine st_new (fun b => .slice (some ⟨b, 0, none⟩) 3 3) (some 23) rfl rfl (ex_bsl3 (u := (.int .i64 t.fee)) (r := (.int .i64 t.res)) (s := (.int .i64 t.fl)) rfl rfl rfl rfl (bs82_3 _ _ _ _)) ?_
    intro b3 W4 k3 g3 B
    simp only [Act.put, List.setIfInBounds_toArray, List.set_cons_zero, List.set_cons_succ]
    have ne_b3_b1 : b3 ≠ b1 := fun e => by have := lt_of k1; omega
    have ne_b3_b2 : b3 ≠ b2 := fun e => by have := lt_of k2; omega
    have ge_b3 := Nat.le_trans E.size g3
    replace E := below_next E B
    replace k1 := keep B k1
    replace k2 := keep B k2
    clear B
    refine st_call (some 24) rfl rfl (areAm k3 hb.fee hb.res hb.fl (decide_eq_true c2)) (ex_call (f := 35) (vs := [(.slice (some ⟨b3, 0, none⟩) 3 3)]) rfl (cf35 _) rfl) ?_
    rintro e W5 ⟨rfl, B⟩
    refine ⟨_, rfl, ?_⟩
    simp only [Act.put, List.setIfInBounds_toArray, List.set_cons_zero, List.set_cons_succ]
    replace E := below_next E B
    replace k1 := keep B k1
    replace k2 := keep B k2
    replace k3 := keep B k3
    refine st_to (v := (.bool true)) (some 25) rfl rfl (ex_pkT rfl rfl rfl) ?_
    simp only [Act.put, List.setIfInBounds_toArray, List.set_cons_zero, List.set_cons_succ]
    refine st_to (v := (.bool true)) (some 26) rfl rfl (ex_mv rfl rfl) ?_
    simp only [Act.put, List.setIfInBounds_toArray, List.set_cons_zero, List.set_cons_succ]
    refine st_to (v := (.pointer (some ⟨b1, 0, none⟩))) (some 27) rfl rfl (ex_fa (p := (.pointer (some ⟨b1, 0, none⟩))) rfl rfl (fa26_0 _ _)) ?_
    simp only [Act.put, List.setIfInBounds_toArray, List.set_cons_zero, List.set_cons_succ]
    refine st_to (v := (.int .i64 t.ch)) (some 28) rfl rfl (ex_load (p := (.pointer (some ⟨b1, 0, none⟩))) rfl rfl (ld3 (at_cell k1 hT.c0))) ?_
    simp only [Act.put, List.setIfInBounds_toArray, List.set_cons_zero, List.set_cons_succ]
    refine st_to (v := (.bool false)) (some 29) rfl rfl (ex_bin (u := (.int .i64 t.ch)) (r := (.int .i64 1)) rfl rfl rfl (eg3 _ _ _ _ _ _) (geq3 _ (decide_eq_false c3))) ?_
    simp only [Act.put, List.setIfInBounds_toArray, List.set_cons_zero, List.set_cons_succ]
    refine st_to (v := (.bool false)) (some 30) rfl rfl (ex_pkT rfl rfl rfl) ?_
    simp only [Act.put, List.setIfInBounds_toArray, List.set_cons_zero, List.set_cons_succ]
    refine st_to (v := (.bool false)) (some 31) rfl rfl (ex_mv rfl rfl) ?_
    simp only [Act.put, List.setIfInBounds_toArray, List.set_cons_zero, List.set_cons_succ]
    refine st_no (some 32) rfl rfl ?_
    simp only [Act.put, List.setIfInBounds_toArray, List.set_cons_zero, List.set_cons_succ]
    refine st_no (some 33) rfl rfl ?_
    simp only [Act.put, List.setIfInBounds_toArray, List.set_cons_zero, List.set_cons_succ]
    refine st_no (some 34) rfl rfl ?_
    simp only [Act.put, List.setIfInBounds_toArray, List.set_cons_zero, List.set_cons_succ]
    refine st_to (v := (.bool false)) (some 35) rfl rfl (ex_pkF rfl rfl rfl) ?_
    simp only [Act.put, List.setIfInBounds_toArray, List.set_cons_zero, List.set_cons_succ]
    refine st_to (v := (.bool false)) (some 36) rfl rfl (ex_mv rfl rfl) ?_
    simp only [Act.put, List.setIfInBounds_toArray, List.set_cons_zero, List.set_cons_succ]
    refine st_no (some 37) rfl rfl ?_
    simp only [Act.put, List.setIfInBounds_toArray, List.set_cons_zero, List.set_cons_succ]
    refine st_no (some 38) rfl rfl ?_
    simp only [Act.put, List.setIfInBounds_toArray, List.set_cons_zero, List.set_cons_succ]
    refine st_no (some 39) rfl rfl ?_
    simp only [Act.put, List.setIfInBounds_toArray, List.set_cons_zero, List.set_cons_succ]
    refine st_to (v := (.bool false)) (some 40) rfl rfl (ex_pkF rfl rfl rfl) ?_
    simp only [Act.put, List.setIfInBounds_toArray, List.set_cons_zero, List.set_cons_succ]
    refine st_to (v := (.bool false)) (some 41) rfl rfl (ex_mv rfl rfl) ?_
    simp only [Act.put, List.setIfInBounds_toArray, List.set_cons_zero, List.set_cons_succ]
    refine st_no (some 42) rfl rfl ?_
    simp only [Act.put, List.setIfInBounds_toArray, List.set_cons_zero, List.set_cons_succ]
    refine st_no (some 43) rfl rfl ?_
    simp only [Act.put, List.setIfInBounds_toArray, List.set_cons_zero, List.set_cons_succ]
    refine st_no (some 44) rfl rfl ?_
    simp only [Act.put, List.setIfInBounds_toArray, List.set_cons_zero, List.set_cons_succ]
    refine st_no (some 45) rfl rfl ?_
    simp only [Act.put, List.setIfInBounds_toArray, List.set_cons_zero, List.set_cons_succ]
    refine st_no (some 46) rfl rfl ?_
    simp only [Act.put, List.setIfInBounds_toArray, List.set_cons_zero, List.set_cons_succ]
    refine st_to (v := (.bool false)) (some 47) rfl rfl (ex_pkF rfl rfl rfl) ?_
    simp only [Act.put, List.setIfInBounds_toArray, List.set_cons_zero, List.set_cons_succ]
    refine st_to (v := (.bool false)) (some 48) rfl rfl (ex_mv rfl rfl) ?_
    simp only [Act.put, List.setIfInBounds_toArray, List.set_cons_zero, List.set_cons_succ]
    refine st_no (some 49) rfl rfl ?_
    simp only [Act.put, List.setIfInBounds_toArray, List.set_cons_zero, List.set_cons_succ]
    refine st_no (some 50) rfl rfl ?_
    simp only [Act.put, List.setIfInBounds_toArray, List.set_cons_zero, List.set_cons_succ]
    refine st_no (some 51) rfl rfl ?_
    simp only [Act.put, List.setIfInBounds_toArray, List.set_cons_zero, List.set_cons_succ]
    refine st_to (v := (.bool false)) (some 52) rfl rfl (ex_pkF rfl rfl rfl) ?_
    simp only [Act.put, List.setIfInBounds_toArray, List.set_cons_zero, List.set_cons_succ]
    refine st_to (v := (.bool false)) (some 53) rfl rfl (ex_mv rfl rfl) ?_
    simp only [Act.put, List.setIfInBounds_toArray, List.set_cons_zero, List.set_cons_succ]
    refine st_no (some 54) rfl rfl ?_
    simp only [Act.put, List.setIfInBounds_toArray, List.set_cons_zero, List.set_cons_succ]
    refine st_no (some 55) rfl rfl ?_
    simp only [Act.put, List.setIfInBounds_toArray, List.set_cons_zero, List.set_cons_succ]
    refine st_no (some 56) rfl rfl ?_
    simp only [Act.put, List.setIfInBounds_toArray, List.set_cons_zero, List.set_cons_succ]
    refine st_no (some 57) rfl rfl ?_
    simp only [Act.put, List.setIfInBounds_toArray, List.set_cons_zero, List.set_cons_succ]
    refine st_to (v := (.bool false)) (some 58) rfl rfl (ex_pkF rfl rfl rfl) ?_
    simp only [Act.put, List.setIfInBounds_toArray, List.set_cons_zero, List.set_cons_succ]
    refine st_to (v := (.bool false)) (some 59) rfl rfl (ex_mv rfl rfl) ?_
    simp only [Act.put, List.setIfInBounds_toArray, List.set_cons_zero, List.set_cons_succ]
    refine st_no (some 60) rfl rfl ?_
    simp only [Act.put, List.setIfInBounds_toArray, List.set_cons_zero, List.set_cons_succ]
    refine st_no (some 61) rfl rfl ?_
    simp only [Act.put, List.setIfInBounds_toArray, List.set_cons_zero, List.set_cons_succ]
    refine st_no (some 62) rfl rfl ?_
    simp only [Act.put, List.setIfInBounds_toArray, List.set_cons_zero, List.set_cons_succ]
    refine st_to (v := (.bool false)) (some 63) rfl rfl (ex_pkF rfl rfl rfl) ?_
    simp only [Act.put, List.setIfInBounds_toArray, List.set_cons_zero, List.set_cons_succ]
    refine st_to (v := (.bool false)) (some 64) rfl rfl (ex_mv rfl rfl) ?_
    simp only [Act.put, List.setIfInBounds_toArray, List.set_cons_zero, List.set_cons_succ]
    refine st_no (some 65) rfl rfl ?_
    simp only [Act.put, List.setIfInBounds_toArray, List.set_cons_zero, List.set_cons_succ]
    refine st_no (some 66) rfl rfl ?_
    simp only [Act.put, List.setIfInBounds_toArray, List.set_cons_zero, List.set_cons_succ]
    refine st_no (some 67) rfl rfl ?_
    simp only [Act.put, List.setIfInBounds_toArray, List.set_cons_zero, List.set_cons_succ]
    refine st_to (v := (.bool false)) (some 68) rfl rfl (ex_pkF rfl rfl rfl) ?_
    simp only [Act.put, List.setIfInBounds_toArray, List.set_cons_zero, List.set_cons_succ]
    refine st_to (v := (.bool false)) (some 69) rfl rfl (ex_mv rfl rfl) ?_
    simp only [Act.put, List.setIfInBounds_toArray, List.set_cons_zero, List.set_cons_succ]
    refine st_no (some 70) rfl rfl ?_
    simp only [Act.put, List.setIfInBounds_toArray, List.set_cons_zero, List.set_cons_succ]
    refine st_no (some 71) rfl rfl ?_
    simp only [Act.put, List.setIfInBounds_toArray, List.set_cons_zero, List.set_cons_succ]
    refine st_no (some 72) rfl rfl ?_
    simp only [Act.put, List.setIfInBounds_toArray, List.set_cons_zero, List.set_cons_succ]
    refine st_to (v := (.bool false)) (some 73) rfl rfl (ex_pkF rfl rfl rfl) ?_
    simp only [Act.put, List.setIfInBounds_toArray, List.set_cons_zero, List.set_cons_succ]
    refine st_to (v := (.bool false)) (some 74) rfl rfl (ex_mv rfl rfl) ?_
    simp only [Act.put, List.setIfInBounds_toArray, List.set_cons_zero, List.set_cons_succ]
    refine st_no (some 75) rfl rfl ?_
    simp only [Act.put, List.setIfInBounds_toArray, List.set_cons_zero, List.set_cons_succ]
    refine st_no (some 76) rfl rfl ?_
    simp only [Act.put, List.setIfInBounds_toArray, List.set_cons_zero, List.set_cons_succ]
    refine st_no (some 77) rfl rfl ?_
    simp only [Act.put, List.setIfInBounds_toArray, List.set_cons_zero, List.set_cons_succ]
    refine st_to (v := (.bool false)) (some 78) rfl rfl (ex_pkF rfl rfl rfl) ?_
    simp only [Act.put, List.setIfInBounds_toArray, List.set_cons_zero, List.set_cons_succ]
    refine st_to (v := (.bool false)) (some 2) rfl rfl (ex_asg rfl rfl) ?_
    simp only [Act.put, List.setIfInBounds_toArray, List.set_cons_zero, List.set_cons_succ]
    refine st_end ?_
    subst hQ
    refine wp_ret ?_
    refine bodyPost_ret (results_tmp Try.results12 _ _ _) rfl ⟨?_, E⟩
    show Ending.returned (.bool false) = _
    rw [decide_eq_false (fun h => c3 h.2.2.1)]
  by_cases c4 : t.ch ≤ 65535
  rotate_left
  · skip
    have E : Below w.heap.size w w := Below.refl _ _
    go_enter Try.func12, Try.ntmps12
    refine wp_seq ?_
    refine wl_in ?_
    refine wl_cap fun Q hQ => ?_
    refine st_new (fun b => .pointer (some ⟨b, 0, none⟩)) (some 1) rfl rfl (ex_box rfl rfl) ?_
    intro b1 W1 k1 g1 B
    simp only [Act.put, List.setIfInBounds_toArray, List.set_cons_zero, List.set_cons_succ]
    have ge_b1 := Nat.le_trans E.size g1
    replace E := below_next E B
    clear B
    refine st_to (v := (.bool false)) (some 2) rfl rfl (ex_asg rfl rfl) ?_
    simp only [Act.put, List.setIfInBounds_toArray, List.set_cons_zero, List.set_cons_succ]
    refine st_end ?_
    subst hQ
    refine wp_seq ?_
    refine wl_in ?_
    refine wl_cap fun Q hQ => ?_
    refine st_to (v := (.pointer (some ⟨b1, 36, none⟩))) (some 6) rfl rfl (ex_fa (p := (.pointer (some ⟨b1, 0, none⟩))) rfl rfl (fa26_4 _ _)) ?_
    simp only [Act.put, List.setIfInBounds_toArray, List.set_cons_zero, List.set_cons_succ]
    refine st_to (v := (.int .i64 t.sa)) (some 7) rfl rfl (ex_load (p := (.pointer (some ⟨b1, 36, none⟩))) rfl rfl (ld3 (at_cell k1 hT.c36))) ?_
    simp only [Act.put, List.setIfInBounds_toArray, List.set_cons_zero, List.set_cons_succ]
    refine st_to (v := (.pointer (some ⟨b1, 37, none⟩))) (some 8) rfl rfl (ex_fa (p := (.pointer (some ⟨b1, 0, none⟩))) rfl rfl (fa26_5 _ _)) ?_
    simp only [Act.put, List.setIfInBounds_toArray, List.set_cons_zero, List.set_cons_succ]
    refine st_to (v := (.int .i64 t.sb)) (some 9) rfl rfl (ex_load (p := (.pointer (some ⟨b1, 37, none⟩))) rfl rfl (ld3 (at_cell k1 hT.c37))) ?_
    simp only [Act.put, List.setIfInBounds_toArray, List.set_cons_zero, List.set_cons_succ]
    refine st_new (fun b => .slice (some ⟨b, 0, none⟩) 2 2) (some 10) rfl rfl (ex_bsl2 (u := (.int .i64 t.sa)) (r := (.int .i64 t.sb)) rfl rfl rfl (bs82_2 _ _ _)) ?_
    intro b2 W2 k2 g2 B
    simp only [Act.put, List.setIfInBounds_toArray, List.set_cons_zero, List.set_cons_succ]
    have ne_b2_b1 : b2 ≠ b1 := fun e => by have := lt_of k1; omega
    have ge_b2 := Nat.le_trans E.size g2
    replace E := below_next E B
    replace k1 := keep B k1
    clear B
    refine st_call (some 11) rfl rfl (sum2_ok k2 c1) (ex_call (f := 34) (vs := [(.slice (some ⟨b2, 0, none⟩) 2 2)]) rfl (cf34 _) rfl) ?_
    rintro e W3 ⟨rfl, B⟩
    refine ⟨_, rfl, ?_⟩
    simp only [Act.put, List.setIfInBounds_toArray, List.set_cons_zero, List.set_cons_succ]
    replace E := below_next E B
    replace k1 := keep B k1
    replace k2 := keep B k2
    refine st_to (v := (.tuple #[(.int .i64 (t.sa + t.sb)), (.int .i64 0)])) (some 5) rfl rfl (ex_mv rfl rfl) ?_
    simp only [Act.put, List.setIfInBounds_toArray, List.set_cons_zero, List.set_cons_succ]
    refine st_to (v := (.int .i64 (t.sa + t.sb))) (some 12) rfl rfl (ex_ext rfl rfl rfl) ?_
    simp only [Act.put, List.setIfInBounds_toArray, List.set_cons_zero, List.set_cons_succ]
    refine st_to (v := (.int .i64 0)) (some 13) rfl rfl (ex_ext rfl rfl rfl) ?_
    simp only [Act.put, List.setIfInBounds_toArray, List.set_cons_zero, List.set_cons_succ]
    refine st_to (v := (.int .i64 (t.sa + t.sb))) (some 3) rfl rfl (ex_asg rfl rfl) ?_
    simp only [Act.put, List.setIfInBounds_toArray, List.set_cons_zero, List.set_cons_succ]
    refine st_to (v := (.int .i64 0)) (some 4) rfl rfl (ex_asg rfl rfl) ?_
    simp only [Act.put, List.setIfInBounds_toArray, List.set_cons_zero, List.set_cons_succ]
    refine st_end ?_
    subst hQ
    refine wp_seq ?_
    refine wl_in ?_
    refine wl_cap fun Q hQ => ?_
    refine st_to (v := (.int .i64 0)) (some 14) rfl rfl (ex_mv rfl rfl) ?_
    simp only [Act.put, List.setIfInBounds_toArray, List.set_cons_zero, List.set_cons_succ]
    refine st_to (v := (.bool true)) (some 15) rfl rfl (ex_bin (u := (.int .i64 0)) (r := (.int .i64 0)) rfl rfl rfl (eg35 _ _ _ _ _ _) (eql35 _ (by decide))) ?_
    simp only [Act.put, List.setIfInBounds_toArray, List.set_cons_zero, List.set_cons_succ]
    refine st_to (v := (.bool true)) (some 16) rfl rfl (ex_mv rfl rfl) ?_
    simp only [Act.put, List.setIfInBounds_toArray, List.set_cons_zero, List.set_cons_succ]
    refine st_to (v := (.pointer (some ⟨b1, 39, none⟩))) (some 17) rfl rfl (ex_fa (p := (.pointer (some ⟨b1, 0, none⟩))) rfl rfl (fa26_7 _ _)) ?_
    simp only [Act.put, List.setIfInBounds_toArray, List.set_cons_zero, List.set_cons_succ]
    refine st_to (v := (.int .i64 t.fee)) (some 18) rfl rfl (ex_load (p := (.pointer (some ⟨b1, 39, none⟩))) rfl rfl (ld3 (at_cell k1 hT.c39))) ?_
    simp only [Act.put, List.setIfInBounds_toArray, List.set_cons_zero, List.set_cons_succ]
    refine st_to (v := (.pointer (some ⟨b1, 40, none⟩))) (some 19) rfl rfl (ex_fa (p := (.pointer (some ⟨b1, 0, none⟩))) rfl rfl (fa26_8 _ _)) ?_
    simp only [Act.put, List.setIfInBounds_toArray, List.set_cons_zero, List.set_cons_succ]
    refine st_to (v := (.int .i64 t.res)) (some 20) rfl rfl (ex_load (p := (.pointer (some ⟨b1, 40, none⟩))) rfl rfl (ld3 (at_cell k1 hT.c40))) ?_
    simp only [Act.put, List.setIfInBounds_toArray, List.set_cons_zero, List.set_cons_succ]
    refine st_to (v := (.pointer (some ⟨b1, 42, none⟩))) (some 21) rfl rfl (ex_fa (p := (.pointer (some ⟨b1, 0, none⟩))) rfl rfl (fa26_10 _ _)) ?_
    simp only [Act.put, List.setIfInBounds_toArray, List.set_cons_zero, List.set_cons_succ]
    refine st_to (v := (.int .i64 t.fl)) (some 22) rfl rfl (ex_load (p := (.pointer (some ⟨b1, 42, none⟩))) rfl rfl (ld3 (at_cell k1 hT.c42))) ?_
    simp only [Act.put, List.setIfInBounds_toArray, List.set_cons_zero, List.set_cons_succ]
    refine st_new (fun b => .slice (some ⟨b, 0, none⟩) 3 3) (some 23) rfl rfl (ex_bsl3 (u := (.int .i64 t.fee)) (r := (.int .i64 t.res)) (s := (.int .i64 t.fl)) rfl rfl rfl rfl (bs82_3 _ _ _ _)) ?_
    intro b3 W4 k3 g3 B
    simp only [Act.put, List.setIfInBounds_toArray, List.set_cons_zero, List.set_cons_succ]
    have ne_b3_b1 : b3 ≠ b1 := fun e => by have := lt_of k1; omega
    have ne_b3_b2 : b3 ≠ b2 := fun e => by have := lt_of k2; omega
    have ge_b3 := Nat.le_trans E.size g3
    replace E := below_next E B
    replace k1 := keep B k1
    replace k2 := keep B k2
    clear B
    refine st_call (some 24) rfl rfl (areAm k3 hb.fee hb.res hb.fl (decide_eq_true c2)) (ex_call (f := 35) (vs := [(.slice (some ⟨b3, 0, none⟩) 3 3)]) rfl (cf35 _) rfl) ?_
    rintro e W5 ⟨rfl, B⟩
    refine ⟨_, rfl, ?_⟩
    simp only [Act.put, List.setIfInBounds_toArray, List.set_cons_zero, List.set_cons_succ]
    replace E := below_next E B
    replace k1 := keep B k1
    replace k2 := keep B k2
    replace k3 := keep B k3
    refine st_to (v := (.bool true)) (some 25) rfl rfl (ex_pkT rfl rfl rfl) ?_
    simp only [Act.put, List.setIfInBounds_toArray, List.set_cons_zero, List.set_cons_succ]
    refine st_to (v := (.bool true)) (some 26) rfl rfl (ex_mv rfl rfl) ?_
    simp only [Act.put, List.setIfInBounds_toArray, List.set_cons_zero, List.set_cons_succ]
    refine st_to (v := (.pointer (some ⟨b1, 0, none⟩))) (some 27) rfl rfl (ex_fa (p := (.pointer (some ⟨b1, 0, none⟩))) rfl rfl (fa26_0 _ _)) ?_
    simp only [Act.put, List.setIfInBounds_toArray, List.set_cons_zero, List.set_cons_succ]
    refine st_to (v := (.int .i64 t.ch)) (some 28) rfl rfl (ex_load (p := (.pointer (some ⟨b1, 0, none⟩))) rfl rfl (ld3 (at_cell k1 hT.c0))) ?_
    simp only [Act.put, List.setIfInBounds_toArray, List.set_cons_zero, List.set_cons_succ]
    refine st_to (v := (.bool true)) (some 29) rfl rfl (ex_bin (u := (.int .i64 t.ch)) (r := (.int .i64 1)) rfl rfl rfl (eg3 _ _ _ _ _ _) (geq3 _ (decide_eq_true c3))) ?_
    simp only [Act.put, List.setIfInBounds_toArray, List.set_cons_zero, List.set_cons_succ]
    refine st_to (v := (.bool true)) (some 30) rfl rfl (ex_pkT rfl rfl rfl) ?_
    simp only [Act.put, List.setIfInBounds_toArray, List.set_cons_zero, List.set_cons_succ]
    refine st_to (v := (.bool true)) (some 31) rfl rfl (ex_mv rfl rfl) ?_
    simp only [Act.put, List.setIfInBounds_toArray, List.set_cons_zero, List.set_cons_succ]
    refine st_to (v := (.pointer (some ⟨b1, 0, none⟩))) (some 32) rfl rfl (ex_fa (p := (.pointer (some ⟨b1, 0, none⟩))) rfl rfl (fa26_0 _ _)) ?_
    simp only [Act.put, List.setIfInBounds_toArray, List.set_cons_zero, List.set_cons_succ]
    refine st_to (v := (.int .i64 t.ch)) (some 33) rfl rfl (ex_load (p := (.pointer (some ⟨b1, 0, none⟩))) rfl rfl (ld3 (at_cell k1 hT.c0))) ?_
    simp only [Act.put, List.setIfInBounds_toArray, List.set_cons_zero, List.set_cons_succ]
    refine st_to (v := (.bool false)) (some 34) rfl rfl (ex_bin (u := (.int .i64 t.ch)) (r := (.int .i64 65535)) rfl rfl rfl (eg3 _ _ _ _ _ _) (leq3 _ (decide_eq_false c4))) ?_
    simp only [Act.put, List.setIfInBounds_toArray, List.set_cons_zero, List.set_cons_succ]
    refine st_to (v := (.bool false)) (some 35) rfl rfl (ex_pkT rfl rfl rfl) ?_
    simp only [Act.put, List.setIfInBounds_toArray, List.set_cons_zero, List.set_cons_succ]
    refine st_to (v := (.bool false)) (some 36) rfl rfl (ex_mv rfl rfl) ?_
    simp only [Act.put, List.setIfInBounds_toArray, List.set_cons_zero, List.set_cons_succ]
    refine st_no (some 37) rfl rfl ?_
    simp only [Act.put, List.setIfInBounds_toArray, List.set_cons_zero, List.set_cons_succ]
    refine st_no (some 38) rfl rfl ?_
    simp only [Act.put, List.setIfInBounds_toArray, List.set_cons_zero, List.set_cons_succ]
    refine st_no (some 39) rfl rfl ?_
    simp only [Act.put, List.setIfInBounds_toArray, List.set_cons_zero, List.set_cons_succ]
    refine st_to (v := (.bool false)) (some 40) rfl rfl (ex_pkF rfl rfl rfl) ?_
    simp only [Act.put, List.setIfInBounds_toArray, List.set_cons_zero, List.set_cons_succ]
    refine st_to (v := (.bool false)) (some 41) rfl rfl (ex_mv rfl rfl) ?_
    simp only [Act.put, List.setIfInBounds_toArray, List.set_cons_zero, List.set_cons_succ]
    refine st_no (some 42) rfl rfl ?_
    simp only [Act.put, List.setIfInBounds_toArray, List.set_cons_zero, List.set_cons_succ]
    refine st_no (some 43) rfl rfl ?_
    simp only [Act.put, List.setIfInBounds_toArray, List.set_cons_zero, List.set_cons_succ]
    refine st_no (some 44) rfl rfl ?_
    simp only [Act.put, List.setIfInBounds_toArray, List.set_cons_zero, List.set_cons_succ]
    refine st_no (some 45) rfl rfl ?_
    simp only [Act.put, List.setIfInBounds_toArray, List.set_cons_zero, List.set_cons_succ]
    refine st_no (some 46) rfl rfl ?_
    simp only [Act.put, List.setIfInBounds_toArray, List.set_cons_zero, List.set_cons_succ]
    refine st_to (v := (.bool false)) (some 47) rfl rfl (ex_pkF rfl rfl rfl) ?_
    simp only [Act.put, List.setIfInBounds_toArray, List.set_cons_zero, List.set_cons_succ]
    refine st_to (v := (.bool false)) (some 48) rfl rfl (ex_mv rfl rfl) ?_
    simp only [Act.put, List.setIfInBounds_toArray, List.set_cons_zero, List.set_cons_succ]
    refine st_no (some 49) rfl rfl ?_
    simp only [Act.put, List.setIfInBounds_toArray, List.set_cons_zero, List.set_cons_succ]
    refine st_no (some 50) rfl rfl ?_
    simp only [Act.put, List.setIfInBounds_toArray, List.set_cons_zero, List.set_cons_succ]
    refine st_no (some 51) rfl rfl ?_
    simp only [Act.put, List.setIfInBounds_toArray, List.set_cons_zero, List.set_cons_succ]
    refine st_to (v := (.bool false)) (some 52) rfl rfl (ex_pkF rfl rfl rfl) ?_
    simp only [Act.put, List.setIfInBounds_toArray, List.set_cons_zero, List.set_cons_succ]
    refine st_to (v := (.bool false)) (some 53) rfl rfl (ex_mv rfl rfl) ?_
    simp only [Act.put, List.setIfInBounds_toArray, List.set_cons_zero, List.set_cons_succ]
    refine st_no (some 54) rfl rfl ?_
    simp only [Act.put, List.setIfInBounds_toArray, List.set_cons_zero, List.set_cons_succ]
    refine st_no (some 55) rfl rfl ?_
    simp only [Act.put, List.setIfInBounds_toArray, List.set_cons_zero, List.set_cons_succ]
    refine st_no (some 56) rfl rfl ?_
    simp only [Act.put, List.setIfInBounds_toArray, List.set_cons_zero, List.set_cons_succ]
    refine st_no (some 57) rfl rfl ?_
    simp only [Act.put, List.setIfInBounds_toArray, List.set_cons_zero, List.set_cons_succ]
    refine st_to (v := (.bool false)) (some 58) rfl rfl (ex_pkF rfl rfl rfl) ?_
    simp only [Act.put, List.setIfInBounds_toArray, List.set_cons_zero, List.set_cons_succ]
    refine st_to (v := (.bool false)) (some 59) rfl rfl (ex_mv rfl rfl) ?_
    simp only [Act.put, List.setIfInBounds_toArray, List.set_cons_zero, List.set_cons_succ]
    refine st_no (some 60) rfl rfl ?_
    simp only [Act.put, List.setIfInBounds_toArray, List.set_cons_zero, List.set_cons_succ]
    refine st_no (some 61) rfl rfl ?_
    simp only [Act.put, List.setIfInBounds_toArray, List.set_cons_zero, List.set_cons_succ]
    refine st_no (some 62) rfl rfl ?_
    simp only [Act.put, List.setIfInBounds_toArray, List.set_cons_zero, List.set_cons_succ]
    refine st_to (v := (.bool false)) (some 63) rfl rfl (ex_pkF rfl rfl rfl) ?_
    simp only [Act.put, List.setIfInBounds_toArray, List.set_cons_zero, List.set_cons_succ]
    refine st_to (v := (.bool false)) (some 64) rfl rfl (ex_mv rfl rfl) ?_
    simp only [Act.put, List.setIfInBounds_toArray, List.set_cons_zero, List.set_cons_succ]
    refine st_no (some 65) rfl rfl ?_
    simp only [Act.put, List.setIfInBounds_toArray, List.set_cons_zero, List.set_cons_succ]
    refine st_no (some 66) rfl rfl ?_
    simp only [Act.put, List.setIfInBounds_toArray, List.set_cons_zero, List.set_cons_succ]
    refine st_no (some 67) rfl rfl ?_
    simp only [Act.put, List.setIfInBounds_toArray, List.set_cons_zero, List.set_cons_succ]
    refine st_to (v := (.bool false)) (some 68) rfl rfl (ex_pkF rfl rfl rfl) ?_
    simp only [Act.put, List.setIfInBounds_toArray, List.set_cons_zero, List.set_cons_succ]
    refine st_to (v := (.bool false)) (some 69) rfl rfl (ex_mv rfl rfl) ?_
    simp only [Act.put, List.setIfInBounds_toArray, List.set_cons_zero, List.set_cons_succ]
    refine st_no (some 70) rfl rfl ?_
    simp only [Act.put, List.setIfInBounds_toArray, List.set_cons_zero, List.set_cons_succ]
    refine st_no (some 71) rfl rfl ?_
    simp only [Act.put, List.setIfInBounds_toArray, List.set_cons_zero, List.set_cons_succ]
    refine st_no (some 72) rfl rfl ?_
    simp only [Act.put, List.setIfInBounds_toArray, List.set_cons_zero, List.set_cons_succ]
    refine st_to (v := (.bool false)) (some 73) rfl rfl (ex_pkF rfl rfl rfl) ?_
    simp only [Act.put, List.setIfInBounds_toArray, List.set_cons_zero, List.set_cons_succ]
    refine st_to (v := (.bool false)) (some 74) rfl rfl (ex_mv rfl rfl) ?_
    simp only [Act.put, List.setIfInBounds_toArray, List.set_cons_zero, List.set_cons_succ]
    refine st_no (some 75) rfl rfl ?_
    simp only [Act.put, List.setIfInBounds_toArray, List.set_cons_zero, List.set_cons_succ]
    refine st_no (some 76) rfl rfl ?_
    simp only [Act.put, List.setIfInBounds_toArray, List.set_cons_zero, List.set_cons_succ]
    refine st_no (some 77) rfl rfl ?_
    simp only [Act.put, List.setIfInBounds_toArray, List.set_cons_zero, List.set_cons_succ]
    refine st_to (v := (.bool false)) (some 78) rfl rfl (ex_pkF rfl rfl rfl) ?_
    simp only [Act.put, List.setIfInBounds_toArray, List.set_cons_zero, List.set_cons_succ]
    refine st_to (v := (.bool false)) (some 2) rfl rfl (ex_asg rfl rfl) ?_
    simp only [Act.put, List.setIfInBounds_toArray, List.set_cons_zero, List.set_cons_succ]
    refine st_end ?_
    subst hQ
    refine wp_ret ?_
    refine bodyPost_ret (results_tmp Try.results12 _ _ _) rfl ⟨?_, E⟩
    show Ending.returned (.bool false) = _
    rw [decide_eq_false (fun h => c4 h.2.2.2.1)]
  by_cases c5 : 0 ≤ t.a
  rotate_left
  · skip
    have E : Below w.heap.size w w := Below.refl _ _
    go_enter Try.func12, Try.ntmps12
    refine wp_seq ?_
    refine wl_in ?_
    refine wl_cap fun Q hQ => ?_
    refine st_new (fun b => .pointer (some ⟨b, 0, none⟩)) (some 1) rfl rfl (ex_box rfl rfl) ?_
    intro b1 W1 k1 g1 B
    simp only [Act.put, List.setIfInBounds_toArray, List.set_cons_zero, List.set_cons_succ]
    have ge_b1 := Nat.le_trans E.size g1
    replace E := below_next E B
    clear B
    refine st_to (v := (.bool false)) (some 2) rfl rfl (ex_asg rfl rfl) ?_
    simp only [Act.put, List.setIfInBounds_toArray, List.set_cons_zero, List.set_cons_succ]
    refine st_end ?_
    subst hQ
    refine wp_seq ?_
    refine wl_in ?_
    refine wl_cap fun Q hQ => ?_
    refine st_to (v := (.pointer (some ⟨b1, 36, none⟩))) (some 6) rfl rfl (ex_fa (p := (.pointer (some ⟨b1, 0, none⟩))) rfl rfl (fa26_4 _ _)) ?_
    simp only [Act.put, List.setIfInBounds_toArray, List.set_cons_zero, List.set_cons_succ]
    refine st_to (v := (.int .i64 t.sa)) (some 7) rfl rfl (ex_load (p := (.pointer (some ⟨b1, 36, none⟩))) rfl rfl (ld3 (at_cell k1 hT.c36))) ?_
    simp only [Act.put, List.setIfInBounds_toArray, List.set_cons_zero, List.set_cons_succ]
    refine st_to (v := (.pointer (some ⟨b1, 37, none⟩))) (some 8) rfl rfl (ex_fa (p := (.pointer (some ⟨b1, 0, none⟩))) rfl rfl (fa26_5 _ _)) ?_
    simp only [Act.put, List.setIfInBounds_toArray, List.set_cons_zero, List.set_cons_succ]
    refine st_to (v := (.int .i64 t.sb)) (some 9) rfl rfl (ex_load (p := (.pointer (some ⟨b1, 37, none⟩))) rfl rfl (ld3 (at_cell k1 hT.c37))) ?_
    simp only [Act.put, List.setIfInBounds_toArray, List.set_cons_zero, List.set_cons_succ]
    refine st_new (fun b => .slice (some ⟨b, 0, none⟩) 2 2) (some 10) rfl rfl (ex_bsl2 (u := (.int .i64 t.sa)) (r := (.int .i64 t.sb)) rfl rfl rfl (bs82_2 _ _ _)) ?_
    intro b2 W2 k2 g2 B
    simp only [Act.put, List.setIfInBounds_toArray, List.set_cons_zero, List.set_cons_succ]
    have ne_b2_b1 : b2 ≠ b1 := fun e => by have := lt_of k1; omega
    have ge_b2 := Nat.le_trans E.size g2
    replace E := below_next E B
    replace k1 := keep B k1
    clear B
    refine st_call (some 11) rfl rfl (sum2_ok k2 c1) (ex_call (f := 34) (vs := [(.slice (some ⟨b2, 0, none⟩) 2 2)]) rfl (cf34 _) rfl) ?_
    rintro e W3 ⟨rfl, B⟩
    refine ⟨_, rfl, ?_⟩
    simp only [Act.put, List.setIfInBounds_toArray, List.set_cons_zero, List.set_cons_succ]
    replace E := below_next E B
    replace k1 := keep B k1
    replace k2 := keep B k2
    refine st_to (v := (.tuple #[(.int .i64 (t.sa + t.sb)), (.int .i64 0)])) (some 5) rfl rfl (ex_mv rfl rfl) ?_
    simp only [Act.put, List.setIfInBounds_toArray, List.set_cons_zero, List.set_cons_succ]
    refine st_to (v := (.int .i64 (t.sa + t.sb))) (some 12) rfl rfl (ex_ext rfl rfl rfl) ?_
    simp only [Act.put, List.setIfInBounds_toArray, List.set_cons_zero, List.set_cons_succ]
    refine st_to (v := (.int .i64 0)) (some 13) rfl rfl (ex_ext rfl rfl rfl) ?_
    simp only [Act.put, List.setIfInBounds_toArray, List.set_cons_zero, List.set_cons_succ]
    refine st_to (v := (.int .i64 (t.sa + t.sb))) (some 3) rfl rfl (ex_asg rfl rfl) ?_
    simp only [Act.put, List.setIfInBounds_toArray, List.set_cons_zero, List.set_cons_succ]
    refine st_to (v := (.int .i64 0)) (some 4) rfl rfl (ex_asg rfl rfl) ?_
    simp only [Act.put, List.setIfInBounds_toArray, List.set_cons_zero, List.set_cons_succ]
    refine st_end ?_
    subst hQ
    refine wp_seq ?_
    refine wl_in ?_
    refine wl_cap fun Q hQ => ?_
    refine st_to (v := (.int .i64 0)) (some 14) rfl rfl (ex_mv rfl rfl) ?_
    simp only [Act.put, List.setIfInBounds_toArray, List.set_cons_zero, List.set_cons_succ]
    refine st_to (v := (.bool true)) (some 15) rfl rfl (ex_bin (u := (.int .i64 0)) (r := (.int .i64 0)) rfl rfl rfl (eg35 _ _ _ _ _ _) (eql35 _ (by decide))) ?_
    simp only [Act.put, List.setIfInBounds_toArray, List.set_cons_zero, List.set_cons_succ]
    refine st_to (v := (.bool true)) (some 16) rfl rfl (ex_mv rfl rfl) ?_
    simp only [Act.put, List.setIfInBounds_toArray, List.set_cons_zero, List.set_cons_succ]
    refine st_to (v := (.pointer (some ⟨b1, 39, none⟩))) (some 17) rfl rfl (ex_fa (p := (.pointer (some ⟨b1, 0, none⟩))) rfl rfl (fa26_7 _ _)) ?_
    simp only [Act.put, List.setIfInBounds_toArray, List.set_cons_zero, List.set_cons_succ]
    refine st_to (v := (.int .i64 t.fee)) (some 18) rfl rfl (ex_load (p := (.pointer (some ⟨b1, 39, none⟩))) rfl rfl (ld3 (at_cell k1 hT.c39))) ?_
    simp only [Act.put, List.setIfInBounds_toArray, List.set_cons_zero, List.set_cons_succ]
    refine st_to (v := (.pointer (some ⟨b1, 40, none⟩))) (some 19) rfl rfl (ex_fa (p := (.pointer (some ⟨b1, 0, none⟩))) rfl rfl (fa26_8 _ _)) ?_
    simp only [Act.put, List.setIfInBounds_toArray, List.set_cons_zero, List.set_cons_succ]
    refine st_to (v := (.int .i64 t.res)) (some 20) rfl rfl (ex_load (p := (.pointer (some ⟨b1, 40, none⟩))) rfl rfl (ld3 (at_cell k1 hT.c40))) ?_
    simp only [Act.put, List.setIfInBounds_toArray, List.set_cons_zero, List.set_cons_succ]
    refine st_to (v := (.pointer (some ⟨b1, 42, none⟩))) (some 21) rfl rfl (ex_fa (p := (.pointer (some ⟨b1, 0, none⟩))) rfl rfl (fa26_10 _ _)) ?_
    simp only [Act.put, List.setIfInBounds_toArray, List.set_cons_zero, List.set_cons_succ]
    refine st_to (v := (.int .i64 t.fl)) (some 22) rfl rfl (ex_load (p := (.pointer (some ⟨b1, 42, none⟩))) rfl rfl (ld3 (at_cell k1 hT.c42))) ?_
    simp only [Act.put, List.setIfInBounds_toArray, List.set_cons_zero, List.set_cons_succ]
    refine st_new (fun b => .slice (some ⟨b, 0, none⟩) 3 3) (some 23) rfl rfl (ex_bsl3 (u := (.int .i64 t.fee)) (r := (.int .i64 t.res)) (s := (.int .i64 t.fl)) rfl rfl rfl rfl (bs82_3 _ _ _ _)) ?_
    intro b3 W4 k3 g3 B
    simp only [Act.put, List.setIfInBounds_toArray, List.set_cons_zero, List.set_cons_succ]
    have ne_b3_b1 : b3 ≠ b1 := fun e => by have := lt_of k1; omega
    have ne_b3_b2 : b3 ≠ b2 := fun e => by have := lt_of k2; omega
    have ge_b3 := Nat.le_trans E.size g3
    replace E := below_next E B
    replace k1 := keep B k1
    replace k2 := keep B k2
    clear B
    refine st_call (some 24) rfl rfl (areAm k3 hb.fee hb.res hb.fl (decide_eq_true c2)) (ex_call (f := 35) (vs := [(.slice (some ⟨b3, 0, none⟩) 3 3)]) rfl (cf35 _) rfl) ?_
    rintro e W5 ⟨rfl, B⟩
    refine ⟨_, rfl, ?_⟩
    simp only [Act.put, List.setIfInBounds_toArray, List.set_cons_zero, List.set_cons_succ]
    replace E := below_next E B
    replace k1 := keep B k1
    replace k2 := keep B k2
    replace k3 := keep B k3
    refine st_to (v := (.bool true)) (some 25) rfl rfl (ex_pkT rfl rfl rfl) ?_
    simp only [Act.put, List.setIfInBounds_toArray, List.set_cons_zero, List.set_cons_succ]
    refine st_to (v := (.bool true)) (some 26) rfl rfl (ex_mv rfl rfl) ?_
    simp only [Act.put, List.setIfInBounds_toArray, List.set_cons_zero, List.set_cons_succ]
    refine st_to (v := (.pointer (some ⟨b1, 0, none⟩))) (some 27) rfl rfl (ex_fa (p := (.pointer (some ⟨b1, 0, none⟩))) rfl rfl (fa26_0 _ _)) ?_
    simp only [Act.put, List.setIfInBounds_toArray, List.set_cons_zero, List.set_cons_succ]
    refine st_to (v := (.int .i64 t.ch)) (some 28) rfl rfl (ex_load (p := (.pointer (some ⟨b1, 0, none⟩))) rfl rfl (ld3 (at_cell k1 hT.c0))) ?_
    simp only [Act.put, List.setIfInBounds_toArray, List.set_cons_zero, List.set_cons_succ]
    refine st_to (v := (.bool true)) (some 29) rfl rfl (ex_bin (u := (.int .i64 t.ch)) (r := (.int .i64 1)) rfl rfl rfl (eg3 _ _ _ _ _ _) (geq3 _ (decide_eq_true c3))) ?_
    simp only [Act.put, List.setIfInBounds_toArray, List.set_cons_zero, List.set_cons_succ]
    refine st_to (v := (.bool true)) (some 30) rfl rfl (ex_pkT rfl rfl rfl) ?_
    simp only [Act.put, List.setIfInBounds_toArray, List.set_cons_zero, List.set_cons_succ]
    refine st_to (v := (.bool true)) (some 31) rfl rfl (ex_mv rfl rfl) ?_
    simp only [Act.put, List.setIfInBounds_toArray, List.set_cons_zero, List.set_cons_succ]
    refine st_to (v := (.pointer (some ⟨b1, 0, none⟩))) (some 32) rfl rfl (ex_fa (p := (.pointer (some ⟨b1, 0, none⟩))) rfl rfl (fa26_0 _ _)) ?_
    simp only [Act.put, List.setIfInBounds_toArray, List.set_cons_zero, List.set_cons_succ]
    refine st_to (v := (.int .i64 t.ch)) (some 33) rfl rfl (ex_load (p := (.pointer (some ⟨b1, 0, none⟩))) rfl rfl (ld3 (at_cell k1 hT.c0))) ?_
    simp only [Act.put, List.setIfInBounds_toArray, List.set_cons_zero, List.set_cons_succ]
    refine st_to (v := (.bool true)) (some 34) rfl rfl (ex_bin (u := (.int .i64 t.ch)) (r := (.int .i64 65535)) rfl rfl rfl (eg3 _ _ _ _ _ _) (leq3 _ (decide_eq_true c4))) ?_
    simp only [Act.put, List.setIfInBounds_toArray, List.set_cons_zero, List.set_cons_succ]
    refine st_to (v := (.bool true)) (some 35) rfl rfl (ex_pkT rfl rfl rfl) ?_
    simp only [Act.put, List.setIfInBounds_toArray, List.set_cons_zero, List.set_cons_succ]
    refine st_to (v := (.bool true)) (some 36) rfl rfl (ex_mv rfl rfl) ?_
    simp only [Act.put, List.setIfInBounds_toArray, List.set_cons_zero, List.set_cons_succ]
    refine st_to (v := (.pointer (some ⟨b1, 1, none⟩))) (some 37) rfl rfl (ex_fa (p := (.pointer (some ⟨b1, 0, none⟩))) rfl rfl (fa26_1 _ _)) ?_
    simp only [Act.put, List.setIfInBounds_toArray, List.set_cons_zero, List.set_cons_succ]
    refine st_to (v := (.int .i64 t.a)) (some 38) rfl rfl (ex_load (p := (.pointer (some ⟨b1, 1, none⟩))) rfl rfl (ld3 (at_cell k1 hT.c1))) ?_
    simp only [Act.put, List.setIfInBounds_toArray, List.set_cons_zero, List.set_cons_succ]
    refine st_to (v := (.bool false)) (some 39) rfl rfl (ex_bin (u := (.int .i64 t.a)) (r := (.int .i64 0)) rfl rfl rfl (eg3 _ _ _ _ _ _) (geq3 _ (decide_eq_false c5))) ?_
    simp only [Act.put, List.setIfInBounds_toArray, List.set_cons_zero, List.set_cons_succ]
    refine st_to (v := (.bool false)) (some 40) rfl rfl (ex_pkT rfl rfl rfl) ?_
    simp only [Act.put, List.setIfInBounds_toArray, List.set_cons_zero, List.set_cons_succ]
    refine st_to (v := (.bool false)) (some 41) rfl rfl (ex_mv rfl rfl) ?_
    simp only [Act.put, List.setIfInBounds_toArray, List.set_cons_zero, List.set_cons_succ]
    refine st_no (some 42) rfl rfl ?_
    simp only [Act.put, List.setIfInBounds_toArray, List.set_cons_zero, List.set_cons_succ]
    refine st_no (some 43) rfl rfl ?_
    simp only [Act.put, List.setIfInBounds_toArray, List.set_cons_zero, List.set_cons_succ]
    refine st_no (some 44) rfl rfl ?_
    simp only [Act.put, List.setIfInBounds_toArray, List.set_cons_zero, List.set_cons_succ]
    refine st_no (some 45) rfl rfl ?_
    simp only [Act.put, List.setIfInBounds_toArray, List.set_cons_zero, List.set_cons_succ]
    refine st_no (some 46) rfl rfl ?_
    simp only [Act.put, List.setIfInBounds_toArray, List.set_cons_zero, List.set_cons_succ]
    refine st_to (v := (.bool false)) (some 47) rfl rfl (ex_pkF rfl rfl rfl) ?_
    simp only [Act.put, List.setIfInBounds_toArray, List.set_cons_zero, List.set_cons_succ]
    refine st_to (v := (.bool false)) (some 48) rfl rfl (ex_mv rfl rfl) ?_
    simp only [Act.put, List.setIfInBounds_toArray, List.set_cons_zero, List.set_cons_succ]
    refine st_no (some 49) rfl rfl ?_
    simp only [Act.put, List.setIfInBounds_toArray, List.set_cons_zero, List.set_cons_succ]
    refine st_no (some 50) rfl rfl ?_
    simp only [Act.put, List.setIfInBounds_toArray, List.set_cons_zero, List.set_cons_succ]
    refine st_no (some 51) rfl rfl ?_
    simp only [Act.put, List.setIfInBounds_toArray, List.set_cons_zero, List.set_cons_succ]
    refine st_to (v := (.bool false)) (some 52) rfl rfl (ex_pkF rfl rfl rfl) ?_
    simp only [Act.put, List.setIfInBounds_toArray, List.set_cons_zero, List.set_cons_succ]
    refine st_to (v := (.bool false)) (some 53) rfl rfl (ex_mv rfl rfl) ?_
    simp only [Act.put, List.setIfInBounds_toArray, List.set_cons_zero, List.set_cons_succ]
    refine st_no (some 54) rfl rfl ?_
    simp only [Act.put, List.setIfInBounds_toArray, List.set_cons_zero, List.set_cons_succ]
    refine st_no (some 55) rfl rfl ?_
    simp only [Act.put, List.setIfInBounds_toArray, List.set_cons_zero, List.set_cons_succ]
    refine st_no (some 56) rfl rfl ?_
    simp only [Act.put, List.setIfInBounds_toArray, List.set_cons_zero, List.set_cons_succ]
    refine st_no (some 57) rfl rfl ?_
    simp only [Act.put, List.setIfInBounds_toArray, List.set_cons_zero, List.set_cons_succ]
    refine st_to (v := (.bool false)) (some 58) rfl rfl (ex_pkF rfl rfl rfl) ?_
    simp only [Act.put, List.setIfInBounds_toArray, List.set_cons_zero, List.set_cons_succ]
    refine st_to (v := (.bool false)) (some 59) rfl rfl (ex_mv rfl rfl) ?_
    simp only [Act.put, List.setIfInBounds_toArray, List.set_cons_zero, List.set_cons_succ]
    refine st_no (some 60) rfl rfl ?_
    simp only [Act.put, List.setIfInBounds_toArray, List.set_cons_zero, List.set_cons_succ]
    refine st_no (some 61) rfl rfl ?_
    simp only [Act.put, List.setIfInBounds_toArray, List.set_cons_zero, List.set_cons_succ]
    refine st_no (some 62) rfl rfl ?_
    simp only [Act.put, List.setIfInBounds_toArray, List.set_cons_zero, List.set_cons_succ]
    refine st_to (v := (.bool false)) (some 63) rfl rfl (ex_pkF rfl rfl rfl) ?_
    simp only [Act.put, List.setIfInBounds_toArray, List.set_cons_zero, List.set_cons_succ]
    refine st_to (v := (.bool false)) (some 64) rfl rfl (ex_mv rfl rfl) ?_
    simp only [Act.put, List.setIfInBounds_toArray, List.set_cons_zero, List.set_cons_succ]
    refine st_no (some 65) rfl rfl ?_
    simp only [Act.put, List.setIfInBounds_toArray, List.set_cons_zero, List.set_cons_succ]
    refine st_no (some 66) rfl rfl ?_
    simp only [Act.put, List.setIfInBounds_toArray, List.set_cons_zero, List.set_cons_succ]
    refine st_no (some 67) rfl rfl ?_
    simp only [Act.put, List.setIfInBounds_toArray, List.set_cons_zero, List.set_cons_succ]
    refine st_to (v := (.bool false)) (some 68) rfl rfl (ex_pkF rfl rfl rfl) ?_
    simp only [Act.put, List.setIfInBounds_toArray, List.set_cons_zero, List.set_cons_succ]
    refine st_to (v := (.bool false)) (some 69) rfl rfl (ex_mv rfl rfl) ?_
    simp only [Act.put, List.setIfInBounds_toArray, List.set_cons_zero, List.set_cons_succ]
    refine st_no (some 70) rfl rfl ?_
    simp only [Act.put, List.setIfInBounds_toArray, List.set_cons_zero, List.set_cons_succ]
    refine st_no (some 71) rfl rfl ?_
    simp only [Act.put, List.setIfInBounds_toArray, List.set_cons_zero, List.set_cons_succ]
    refine st_no (some 72) rfl rfl ?_
    simp only [Act.put, List.setIfInBounds_toArray, List.set_cons_zero, List.set_cons_succ]
    refine st_to (v := (.bool false)) (some 73) rfl rfl (ex_pkF rfl rfl rfl) ?_
    simp only [Act.put, List.setIfInBounds_toArray, List.set_cons_zero, List.set_cons_succ]
    refine st_to (v := (.bool false)) (some 74) rfl rfl (ex_mv rfl rfl) ?_
    simp only [Act.put, List.setIfInBounds_toArray, List.set_cons_zero, List.set_cons_succ]
    refine st_no (some 75) rfl rfl ?_
    simp only [Act.put, List.setIfInBounds_toArray, List.set_cons_zero, List.set_cons_succ]
    refine st_no (some 76) rfl rfl ?_
    simp only [Act.put, List.setIfInBounds_toArray, List.set_cons_zero, List.set_cons_succ]
    refine st_no (some 77) rfl rfl ?_
    simp only [Act.put, List.setIfInBounds_toArray, List.set_cons_zero, List.set_cons_succ]
    refine st_to (v := (.bool false)) (some 78) rfl rfl (ex_pkF rfl rfl rfl) ?_
    simp only [Act.put, List.setIfInBounds_toArray, List.set_cons_zero, List.set_cons_succ]
    refine st_to (v := (.bool false)) (some 2) rfl rfl (ex_asg rfl rfl) ?_
    simp only [Act.put, List.setIfInBounds_toArray, List.set_cons_zero, List.set_cons_succ]
    refine st_end ?_
    subst hQ
    refine wp_ret ?_
    refine bodyPost_ret (results_tmp Try.results12 _ _ _) rfl ⟨?_, E⟩
    show Ending.returned (.bool false) = _
    rw [decide_eq_false (fun h => c5 h.2.2.2.2.1)]
  by_cases c6 : t.a < t.b
  rotate_left
  · skip
    have E : Below w.heap.size w w := Below.refl _ _
    go_enter Try.func12, Try.ntmps12
    refine wp_seq ?_
    refine wl_in ?_
    refine wl_cap fun Q hQ => ?_
    refine st_new (fun b => .pointer (some ⟨b, 0, none⟩)) (some 1) rfl rfl (ex_box rfl rfl) ?_
    intro b1 W1 k1 g1 B
    simp only [Act.put, List.setIfInBounds_toArray, List.set_cons_zero, List.set_cons_succ]
    have ge_b1 := Nat.le_trans E.size g1
    replace E := below_next E B
    clear B
    refine st_to (v := (.bool false)) (some 2) rfl rfl (ex_asg rfl rfl) ?_
    simp only [Act.put, List.setIfInBounds_toArray, List.set_cons_zero, List.set_cons_succ]
    refine st_end ?_
    subst hQ
    refine wp_seq ?_
    refine wl_in ?_
    refine wl_cap fun Q hQ => ?_
    refine st_to (v := (.pointer (some ⟨b1, 36, none⟩))) (some 6) rfl rfl (ex_fa (p := (.pointer (some ⟨b1, 0, none⟩))) rfl rfl (fa26_4 _ _)) ?_
    simp only [Act.put, List.setIfInBounds_toArray, List.set_cons_zero, List.set_cons_succ]
    refine st_to (v := (.int .i64 t.sa)) (some 7) rfl rfl (ex_load (p := (.pointer (some ⟨b1, 36, none⟩))) rfl rfl (ld3 (at_cell k1 hT.c36))) ?_
    simp only [Act.put, List.setIfInBounds_toArray, List.set_cons_zero, List.set_cons_succ]
    refine st_to (v := (.pointer (some ⟨b1, 37, none⟩))) (some 8) rfl rfl (ex_fa (p := (.pointer (some ⟨b1, 0, none⟩))) rfl rfl (fa26_5 _ _)) ?_
    simp only [Act.put, List.setIfInBounds_toArray, List.set_cons_zero, List.set_cons_succ]
    refine st_to (v := (.int .i64 t.sb)) (some 9) rfl rfl (ex_load (p := (.pointer (some ⟨b1, 37, none⟩))) rfl rfl (ld3 (at_cell k1 hT.c37))) ?_
    simp only [Act.put, List.setIfInBounds_toArray, List.set_cons_zero, List.set_cons_succ]
    refine st_new (fun b => .slice (some ⟨b, 0, none⟩) 2 2) (some 10) rfl rfl (ex_bsl2 (u := (.int .i64 t.sa)) (r := (.int .i64 t.sb)) rfl rfl rfl (bs82_2 _ _ _)) ?_
    intro b2 W2 k2 g2 B
    simp only [Act.put, List.setIfInBounds_toArray, List.set_cons_zero, List.set_cons_succ]
    have ne_b2_b1 : b2 ≠ b1 := fun e => by have := lt_of k1; omega
    have ge_b2 := Nat.le_trans E.size g2
    replace E := below_next E B
    replace k1 := keep B k1
    clear B
    refine st_call (some 11) rfl rfl (sum2_ok k2 c1) (ex_call (f := 34) (vs := [(.slice (some ⟨b2, 0, none⟩) 2 2)]) rfl (cf34 _) rfl) ?_
    rintro e W3 ⟨rfl, B⟩
    refine ⟨_, rfl, ?_⟩
    simp only [Act.put, List.setIfInBounds_toArray, List.set_cons_zero, List.set_cons_succ]
    replace E := below_next E B
    replace k1 := keep B k1
    replace k2 := keep B k2
    refine st_to (v := (.tuple #[(.int .i64 (t.sa + t.sb)), (.int .i64 0)])) (some 5) rfl rfl (ex_mv rfl rfl) ?_
    simp only [Act.put, List.setIfInBounds_toArray, List.set_cons_zero, List.set_cons_succ]
    refine st_to (v := (.int .i64 (t.sa + t.sb))) (some 12) rfl rfl (ex_ext rfl rfl rfl) ?_
    simp only [Act.put, List.setIfInBounds_toArray, List.set_cons_zero, List.set_cons_succ]
    refine st_to (v := (.int .i64 0)) (some 13) rfl rfl (ex_ext rfl rfl rfl) ?_
    simp only [Act.put, List.setIfInBounds_toArray, List.set_cons_zero, List.set_cons_succ]
    refine st_to (v := (.int .i64 (t.sa + t.sb))) (some 3) rfl rfl (ex_asg rfl rfl) ?_
    simp only [Act.put, List.setIfInBounds_toArray, List.set_cons_zero, List.set_cons_succ]
    refine st_to (v := (.int .i64 0)) (some 4) rfl rfl (ex_asg rfl rfl) ?_
    simp only [Act.put, List.setIfInBounds_toArray, List.set_cons_zero, List.set_cons_succ]
    refine st_end ?_
    subst hQ
    refine wp_seq ?_
    refine wl_in ?_
    refine wl_cap fun Q hQ => ?_
    refine st_to (v := (.int .i64 0)) (some 14) rfl rfl (ex_mv rfl rfl) ?_
    simp only [Act.put, List.setIfInBounds_toArray, List.set_cons_zero, List.set_cons_succ]
    refine st_to (v := (.bool true)) (some 15) rfl rfl (ex_bin (u := (.int .i64 0)) (r := (.int .i64 0)) rfl rfl rfl (eg35 _ _ _ _ _ _) (eql35 _ (by decide))) ?_
    simp only [Act.put, List.setIfInBounds_toArray, List.set_cons_zero, List.set_cons_succ]
    refine st_to (v := (.bool true)) (some 16) rfl rfl (ex_mv rfl rfl) ?_
    simp only [Act.put, List.setIfInBounds_toArray, List.set_cons_zero, List.set_cons_succ]
    refine st_to (v := (.pointer (some ⟨b1, 39, none⟩))) (some 17) rfl rfl (ex_fa (p := (.pointer (some ⟨b1, 0, none⟩))) rfl rfl (fa26_7 _ _)) ?_
    simp only [Act.put, List.setIfInBounds_toArray, List.set_cons_zero, List.set_cons_succ]
    refine st_to (v := (.int .i64 t.fee)) (some 18) rfl rfl (ex_load (p := (.pointer (some ⟨b1, 39, none⟩))) rfl rfl (ld3 (at_cell k1 hT.c39))) ?_
    simp only [Act.put, List.setIfInBounds_toArray, List.set_cons_zero, List.set_cons_succ]
    refine st_to (v := (.pointer (some ⟨b1, 40, none⟩))) (some 19) rfl rfl (ex_fa (p := (.pointer (some ⟨b1, 0, none⟩))) rfl rfl (fa26_8 _ _)) ?_
    simp only [Act.put, List.setIfInBounds_toArray, List.set_cons_zero, List.set_cons_succ]
    refine st_to (v := (.int .i64 t.res)) (some 20) rfl rfl (ex_load (p := (.pointer (some ⟨b1, 40, none⟩))) rfl rfl (ld3 (at_cell k1 hT.c40))) ?_
    simp only [Act.put, List.setIfInBounds_toArray, List.set_cons_zero, List.set_cons_succ]
    refine st_to (v := (.pointer (some ⟨b1, 42, none⟩))) (some 21) rfl rfl (ex_fa (p := (.pointer (some ⟨b1, 0, none⟩))) rfl rfl (fa26_10 _ _)) ?_
    simp only [Act.put, List.setIfInBounds_toArray, List.set_cons_zero, List.set_cons_succ]
    refine st_to (v := (.int .i64 t.fl)) (some 22) rfl rfl (ex_load (p := (.pointer (some ⟨b1, 42, none⟩))) rfl rfl (ld3 (at_cell k1 hT.c42))) ?_
    simp only [Act.put, List.setIfInBounds_toArray, List.set_cons_zero, List.set_cons_succ]
    refine st_new (fun b => .slice (some ⟨b, 0, none⟩) 3 3) (some 23) rfl rfl (ex_bsl3 (u := (.int .i64 t.fee)) (r := (.int .i64 t.res)) (s := (.int .i64 t.fl)) rfl rfl rfl rfl (bs82_3 _ _ _ _)) ?_
    intro b3 W4 k3 g3 B
    simp only [Act.put, List.setIfInBounds_toArray, List.set_cons_zero, List.set_cons_succ]
    have ne_b3_b1 : b3 ≠ b1 := fun e => by have := lt_of k1; omega
    have ne_b3_b2 : b3 ≠ b2 := fun e => by have := lt_of k2; omega
    have ge_b3 := Nat.le_trans E.size g3
    replace E := below_next E B
    replace k1 := keep B k1
    replace k2 := keep B k2
    clear B
    refine st_call (some 24) rfl rfl (areAm k3 hb.fee hb.res hb.fl (decide_eq_true c2)) (ex_call (f := 35) (vs := [(.slice (some ⟨b3, 0, none⟩) 3 3)]) rfl (cf35 _) rfl) ?_
    rintro e W5 ⟨rfl, B⟩
    refine ⟨_, rfl, ?_⟩
    simp only [Act.put, List.setIfInBounds_toArray, List.set_cons_zero, List.set_cons_succ]
    replace E := below_next E B
    replace k1 := keep B k1
    replace k2 := keep B k2
    replace k3 := keep B k3
    refine st_to (v := (.bool true)) (some 25) rfl rfl (ex_pkT rfl rfl rfl) ?_
    simp only [Act.put, List.setIfInBounds_toArray, List.set_cons_zero, List.set_cons_succ]
    refine st_to (v := (.bool true)) (some 26) rfl rfl (ex_mv rfl rfl) ?_
    simp only [Act.put, List.setIfInBounds_toArray, List.set_cons_zero, List.set_cons_succ]
    refine st_to (v := (.pointer (some ⟨b1, 0, none⟩))) (some 27) rfl rfl (ex_fa (p := (.pointer (some ⟨b1, 0, none⟩))) rfl rfl (fa26_0 _ _)) ?_
    simp only [Act.put, List.setIfInBounds_toArray, List.set_cons_zero, List.set_cons_succ]
    refine st_to (v := (.int .i64 t.ch)) (some 28) rfl rfl (ex_load (p := (.pointer (some ⟨b1, 0, none⟩))) rfl rfl (ld3 (at_cell k1 hT.c0))) ?_
    simp only [Act.put, List.setIfInBounds_toArray, List.set_cons_zero, List.set_cons_succ]
    refine st_to (v := (.bool true)) (some 29) rfl rfl (ex_bin (u := (.int .i64 t.ch)) (r := (.int .i64 1)) rfl rfl rfl (eg3 _ _ _ _ _ _) (geq3 _ (decide_eq_true c3))) ?_
    simp only [Act.put, List.setIfInBounds_toArray, List.set_cons_zero, List.set_cons_succ]
    refine st_to (v := (.bool true)) (some 30) rfl rfl (ex_pkT rfl rfl rfl) ?_
    simp only [Act.put, List.setIfInBounds_toArray, List.set_cons_zero, List.set_cons_succ]
    refine st_to (v := (.bool true)) (some 31) rfl rfl (ex_mv rfl rfl) ?_
    simp only [Act.put, List.setIfInBounds_toArray, List.set_cons_zero, List.set_cons_succ]
    refine st_to (v := (.pointer (some ⟨b1, 0, none⟩))) (some 32) rfl rfl (ex_fa (p := (.pointer (some ⟨b1, 0, none⟩))) rfl rfl (fa26_0 _ _)) ?_
    simp only [Act.put, List.setIfInBounds_toArray, List.set_cons_zero, List.set_cons_succ]
    refine st_to (v := (.int .i64 t.ch)) (some 33) rfl rfl (ex_load (p := (.pointer (some ⟨b1, 0, none⟩))) rfl rfl (ld3 (at_cell k1 hT.c0))) ?_
    simp only [Act.put, List.setIfInBounds_toArray, List.set_cons_zero, List.set_cons_succ]
    refine st_to (v := (.bool true)) (some 34) rfl rfl (ex_bin (u := (.int .i64 t.ch)) (r := (.int .i64 65535)) rfl rfl rfl (eg3 _ _ _ _ _ _) (leq3 _ (decide_eq_true c4))) ?_
    simp only [Act.put, List.setIfInBounds_toArray, List.set_cons_zero, List.set_cons_succ]
    refine st_to (v := (.bool true)) (some 35) rfl rfl (ex_pkT rfl rfl rfl) ?_
    simp only [Act.put, List.setIfInBounds_toArray, List.set_cons_zero, List.set_cons_succ]
    refine st_to (v := (.bool true)) (some 36) rfl rfl (ex_mv rfl rfl) ?_
    simp only [Act.put, List.setIfInBounds_toArray, List.set_cons_zero, List.set_cons_succ]
    refine st_to (v := (.pointer (some ⟨b1, 1, none⟩))) (some 37) rfl rfl (ex_fa (p := (.pointer (some ⟨b1, 0, none⟩))) rfl rfl (fa26_1 _ _)) ?_
    simp only [Act.put, List.setIfInBounds_toArray, List.set_cons_zero, List.set_cons_succ]
    refine st_to (v := (.int .i64 t.a)) (some 38) rfl rfl (ex_load (p := (.pointer (some ⟨b1, 1, none⟩))) rfl rfl (ld3 (at_cell k1 hT.c1))) ?_
    simp only [Act.put, List.setIfInBounds_toArray, List.set_cons_zero, List.set_cons_succ]
    refine st_to (v := (.bool true)) (some 39) rfl rfl (ex_bin (u := (.int .i64 t.a)) (r := (.int .i64 0)) rfl rfl rfl (eg3 _ _ _ _ _ _) (geq3 _ (decide_eq_true c5))) ?_
    simp only [Act.put, List.setIfInBounds_toArray, List.set_cons_zero, List.set_cons_succ]
    refine st_to (v := (.bool true)) (some 40) rfl rfl (ex_pkT rfl rfl rfl) ?_
    simp only [Act.put, List.setIfInBounds_toArray, List.set_cons_zero, List.set_cons_succ]
    refine st_to (v := (.bool true)) (some 41) rfl rfl (ex_mv rfl rfl) ?_
    simp only [Act.put, List.setIfInBounds_toArray, List.set_cons_zero, List.set_cons_succ]
    refine st_to (v := (.pointer (some ⟨b1, 1, none⟩))) (some 42) rfl rfl (ex_fa (p := (.pointer (some ⟨b1, 0, none⟩))) rfl rfl (fa26_1 _ _)) ?_
    simp only [Act.put, List.setIfInBounds_toArray, List.set_cons_zero, List.set_cons_succ]
    refine st_to (v := (.int .i64 t.a)) (some 43) rfl rfl (ex_load (p := (.pointer (some ⟨b1, 1, none⟩))) rfl rfl (ld3 (at_cell k1 hT.c1))) ?_
    simp only [Act.put, List.setIfInBounds_toArray, List.set_cons_zero, List.set_cons_succ]
    refine st_to (v := (.pointer (some ⟨b1, 2, none⟩))) (some 44) rfl rfl (ex_fa (p := (.pointer (some ⟨b1, 0, none⟩))) rfl rfl (fa26_2 _ _)) ?_
    simp only [Act.put, List.setIfInBounds_toArray, List.set_cons_zero, List.set_cons_succ]
    refine st_to (v := (.int .i64 t.b)) (some 45) rfl rfl (ex_load (p := (.pointer (some ⟨b1, 2, none⟩))) rfl rfl (ld3 (at_cell k1 hT.c2))) ?_
    simp only [Act.put, List.setIfInBounds_toArray, List.set_cons_zero, List.set_cons_succ]
    refine st_to (v := (.bool false)) (some 46) rfl rfl (ex_bin (u := (.int .i64 t.a)) (r := (.int .i64 t.b)) rfl rfl rfl (eg3 _ _ _ _ _ _) (lss3 _ (decide_eq_false c6))) ?_
    simp only [Act.put, List.setIfInBounds_toArray, List.set_cons_zero, List.set_cons_succ]
    refine st_to (v := (.bool false)) (some 47) rfl rfl (ex_pkT rfl rfl rfl) ?_
    simp only [Act.put, List.setIfInBounds_toArray, List.set_cons_zero, List.set_cons_succ]
    refine st_to (v := (.bool false)) (some 48) rfl rfl (ex_mv rfl rfl) ?_
    simp only [Act.put, List.setIfInBounds_toArray, List.set_cons_zero, List.set_cons_succ]
    refine st_no (some 49) rfl rfl ?_
    simp only [Act.put, List.setIfInBounds_toArray, List.set_cons_zero, List.set_cons_succ]
    refine st_no (some 50) rfl rfl ?_
    simp only [Act.put, List.setIfInBounds_toArray, List.set_cons_zero, List.set_cons_succ]
    refine st_no (some 51) rfl rfl ?_
    simp only [Act.put, List.setIfInBounds_toArray, List.set_cons_zero, List.set_cons_succ]
    refine st_to (v := (.bool false)) (some 52) rfl rfl (ex_pkF rfl rfl rfl) ?_
    simp only [Act.put, List.setIfInBounds_toArray, List.set_cons_zero, List.set_cons_succ]
    refine st_to (v := (.bool false)) (some 53) rfl rfl (ex_mv rfl rfl) ?_
    simp only [Act.put, List.setIfInBounds_toArray, List.set_cons_zero, List.set_cons_succ]
    refine st_no (some 54) rfl rfl ?_
    simp only [Act.put, List.setIfInBounds_toArray, List.set_cons_zero, List.set_cons_succ]
    refine st_no (some 55) rfl rfl ?_
    simp only [Act.put, List.setIfInBounds_toArray, List.set_cons_zero, List.set_cons_succ]
    refine st_no (some 56) rfl rfl ?_
    simp only [Act.put, List.setIfInBounds_toArray, List.set_cons_zero, List.set_cons_succ]
    refine st_no (some 57) rfl rfl ?_
    simp only [Act.put, List.setIfInBounds_toArray, List.set_cons_zero, List.set_cons_succ]
    refine st_to (v := (.bool false)) (some 58) rfl rfl (ex_pkF rfl rfl rfl) ?_
    simp only [Act.put, List.setIfInBounds_toArray, List.set_cons_zero, List.set_cons_succ]
    refine st_to (v := (.bool false)) (some 59) rfl rfl (ex_mv rfl rfl) ?_
    simp only [Act.put, List.setIfInBounds_toArray, List.set_cons_zero, List.set_cons_succ]
    refine st_no (some 60) rfl rfl ?_
    simp only [Act.put, List.setIfInBounds_toArray, List.set_cons_zero, List.set_cons_succ]
    refine st_no (some 61) rfl rfl ?_
    simp only [Act.put, List.setIfInBounds_toArray, List.set_cons_zero, List.set_cons_succ]
    refine st_no (some 62) rfl rfl ?_
    simp only [Act.put, List.setIfInBounds_toArray, List.set_cons_zero, List.set_cons_succ]
    refine st_to (v := (.bool false)) (some 63) rfl rfl (ex_pkF rfl rfl rfl) ?_
    simp only [Act.put, List.setIfInBounds_toArray, List.set_cons_zero, List.set_cons_succ]
    refine st_to (v := (.bool false)) (some 64) rfl rfl (ex_mv rfl rfl) ?_
    simp only [Act.put, List.setIfInBounds_toArray, List.set_cons_zero, List.set_cons_succ]
    refine st_no (some 65) rfl rfl ?_
    simp only [Act.put, List.setIfInBounds_toArray, List.set_cons_zero, List.set_cons_succ]
    refine st_no (some 66) rfl rfl ?_
    simp only [Act.put, List.setIfInBounds_toArray, List.set_cons_zero, List.set_cons_succ]
    refine st_no (some 67) rfl rfl ?_
    simp only [Act.put, List.setIfInBounds_toArray, List.set_cons_zero, List.set_cons_succ]
    refine st_to (v := (.bool false)) (some 68) rfl rfl (ex_pkF rfl rfl rfl) ?_
    simp only [Act.put, List.setIfInBounds_toArray, List.set_cons_zero, List.set_cons_succ]
    refine st_to (v := (.bool false)) (some 69) rfl rfl (ex_mv rfl rfl) ?_
    simp only [Act.put, List.setIfInBounds_toArray, List.set_cons_zero, List.set_cons_succ]
    refine st_no (some 70) rfl rfl ?_
    simp only [Act.put, List.setIfInBounds_toArray, List.set_cons_zero, List.set_cons_succ]
    refine st_no (some 71) rfl rfl ?_
    simp only [Act.put, List.setIfInBounds_toArray, List.set_cons_zero, List.set_cons_succ]
    refine st_no (some 72) rfl rfl ?_
    simp only [Act.put, List.setIfInBounds_toArray, List.set_cons_zero, List.set_cons_succ]
    refine st_to (v := (.bool false)) (some 73) rfl rfl (ex_pkF rfl rfl rfl) ?_
    simp only [Act.put, List.setIfInBounds_toArray, List.set_cons_zero, List.set_cons_succ]
    refine st_to (v := (.bool false)) (some 74) rfl rfl (ex_mv rfl rfl) ?_
    simp only [Act.put, List.setIfInBounds_toArray, List.set_cons_zero, List.set_cons_succ]
    refine st_no (some 75) rfl rfl ?_
    simp only [Act.put, List.setIfInBounds_toArray, List.set_cons_zero, List.set_cons_succ]
    refine st_no (some 76) rfl rfl ?_
    simp only [Act.put, List.setIfInBounds_toArray, List.set_cons_zero, List.set_cons_succ]
    refine st_no (some 77) rfl rfl ?_
    simp only [Act.put, List.setIfInBounds_toArray, List.set_cons_zero, List.set_cons_succ]
    refine st_to (v := (.bool false)) (some 78) rfl rfl (ex_pkF rfl rfl rfl) ?_
    simp only [Act.put, List.setIfInBounds_toArray, List.set_cons_zero, List.set_cons_succ]
    refine st_to (v := (.bool false)) (some 2) rfl rfl (ex_asg rfl rfl) ?_
    simp only [Act.put, List.setIfInBounds_toArray, List.set_cons_zero, List.set_cons_succ]
    refine st_end ?_
    subst hQ
    refine wp_ret ?_
    refine bodyPost_ret (results_tmp Try.results12 _ _ _) rfl ⟨?_, E⟩
    show Ending.returned (.bool false) = _
    rw [decide_eq_false (fun h => c6 h.2.2.2.2.2.1)]
  by_cases c7 : t.b < 8
  rotate_left
  · skip
    have E : Below w.heap.size w w := Below.refl _ _
    go_enter Try.func12, Try.ntmps12
    refine wp_seq ?_
    refine wl_in ?_
    refine wl_cap fun Q hQ => ?_
    refine st_new (fun b => .pointer (some ⟨b, 0, none⟩)) (some 1) rfl rfl (ex_box rfl rfl) ?_
    intro b1 W1 k1 g1 B
    simp only [Act.put, List.setIfInBounds_toArray, List.set_cons_zero, List.set_cons_succ]
    have ge_b1 := Nat.le_trans E.size g1
    replace E := below_next E B
    clear B
    refine st_to (v := (.bool false)) (some 2) rfl rfl (ex_asg rfl rfl) ?_
    simp only [Act.put, List.setIfInBounds_toArray, List.set_cons_zero, List.set_cons_succ]
    refine st_end ?_
    subst hQ
    refine wp_seq ?_
    refine wl_in ?_
    refine wl_cap fun Q hQ => ?_
    refine st_to (v := (.pointer (some ⟨b1, 36, none⟩))) (some 6) rfl rfl (ex_fa (p := (.pointer (some ⟨b1, 0, none⟩))) rfl rfl (fa26_4 _ _)) ?_
    simp only [Act.put, List.setIfInBounds_toArray, List.set_cons_zero, List.set_cons_succ]
    refine st_to (v := (.int .i64 t.sa)) (some 7) rfl rfl (ex_load (p := (.pointer (some ⟨b1, 36, none⟩))) rfl rfl (ld3 (at_cell k1 hT.c36))) ?_
    simp only [Act.put, List.setIfInBounds_toArray, List.set_cons_zero, List.set_cons_succ]
    refine st_to (v := (.pointer (some ⟨b1, 37, none⟩))) (some 8) rfl rfl (ex_fa (p := (.pointer (some ⟨b1, 0, none⟩))) rfl rfl (fa26_5 _ _)) ?_
    simp only [Act.put, List.setIfInBounds_toArray, List.set_cons_zero, List.set_cons_succ]
    refine st_to (v := (.int .i64 t.sb)) (some 9) rfl rfl (ex_load (p := (.pointer (some ⟨b1, 37, none⟩))) rfl rfl (ld3 (at_cell k1 hT.c37))) ?_
    simp only [Act.put, List.setIfInBounds_toArray, List.set_cons_zero, List.set_cons_succ]
    refine st_new (fun b => .slice (some ⟨b, 0, none⟩) 2 2) (some 10) rfl rfl (ex_bsl2 (u := (.int .i64 t.sa)) (r := (.int .i64 t.sb)) rfl rfl rfl (bs82_2 _ _ _)) ?_
    intro b2 W2 k2 g2 B
    simp only [Act.put, List.setIfInBounds_toArray, List.set_cons_zero, List.set_cons_succ]
    have ne_b2_b1 : b2 ≠ b1 := fun e => by have := lt_of k1; omega
    have ge_b2 := Nat.le_trans E.size g2
    replace E := below_next E B
    replace k1 := keep B k1
    clear B
    refine st_call (some 11) rfl rfl (sum2_ok k2 c1) (ex_call (f := 34) (vs := [(.slice (some ⟨b2, 0, none⟩) 2 2)]) rfl (cf34 _) rfl) ?_
    rintro e W3 ⟨rfl, B⟩
    refine ⟨_, rfl, ?_⟩
    simp only [Act.put, List.setIfInBounds_toArray, List.set_cons_zero, List.set_cons_succ]
    replace E := below_next E B
    replace k1 := keep B k1
    replace k2 := keep B k2
    refine st_to (v := (.tuple #[(.int .i64 (t.sa + t.sb)), (.int .i64 0)])) (some 5) rfl rfl (ex_mv rfl rfl) ?_
    simp only [Act.put, List.setIfInBounds_toArray, List.set_cons_zero, List.set_cons_succ]
    refine st_to (v := (.int .i64 (t.sa + t.sb))) (some 12) rfl rfl (ex_ext rfl rfl rfl) ?_
    simp only [Act.put, List.setIfInBounds_toArray, List.set_cons_zero, List.set_cons_succ]
    refine st_to (v := (.int .i64 0)) (some 13) rfl rfl (ex_ext rfl rfl rfl) ?_
    simp only [Act.put, List.setIfInBounds_toArray, List.set_cons_zero, List.set_cons_succ]
    refine st_to (v := (.int .i64 (t.sa + t.sb))) (some 3) rfl rfl (ex_asg rfl rfl) ?_
    simp only [Act.put, List.setIfInBounds_toArray, List.set_cons_zero, List.set_cons_succ]
    refine st_to (v := (.int .i64 0)) (some 4) rfl rfl (ex_asg rfl rfl) ?_
    simp only [Act.put, List.setIfInBounds_toArray, List.set_cons_zero, List.set_cons_succ]
    refine st_end ?_
    subst hQ
    refine wp_seq ?_
    refine wl_in ?_
    refine wl_cap fun Q hQ => ?_
    refine st_to (v := (.int .i64 0)) (some 14) rfl rfl (ex_mv rfl rfl) ?_
    simp only [Act.put, List.setIfInBounds_toArray, List.set_cons_zero, List.set_cons_succ]
    refine st_to (v := (.bool true)) (some 15) rfl rfl (ex_bin (u := (.int .i64 0)) (r := (.int .i64 0)) rfl rfl rfl (eg35 _ _ _ _ _ _) (eql35 _ (by decide))) ?_
    simp only [Act.put, List.setIfInBounds_toArray, List.set_cons_zero, List.set_cons_succ]
    refine st_to (v := (.bool true)) (some 16) rfl rfl (ex_mv rfl rfl) ?_
    simp only [Act.put, List.setIfInBounds_toArray, List.set_cons_zero, List.set_cons_succ]
    refine st_to (v := (.pointer (some ⟨b1, 39, none⟩))) (some 17) rfl rfl (ex_fa (p := (.pointer (some ⟨b1, 0, none⟩))) rfl rfl (fa26_7 _ _)) ?_
    simp only [Act.put, List.setIfInBounds_toArray, List.set_cons_zero, List.set_cons_succ]
    refine st_to (v := (.int .i64 t.fee)) (some 18) rfl rfl (ex_load (p := (.pointer (some ⟨b1, 39, none⟩))) rfl rfl (ld3 (at_cell k1 hT.c39))) ?_
    simp only [Act.put, List.setIfInBounds_toArray, List.set_cons_zero, List.set_cons_succ]
    refine st_to (v := (.pointer (some ⟨b1, 40, none⟩))) (some 19) rfl rfl (ex_fa (p := (.pointer (some ⟨b1, 0, none⟩))) rfl rfl (fa26_8 _ _)) ?_
    simp only [Act.put, List.setIfInBounds_toArray, List.set_cons_zero, List.set_cons_succ]
    refine st_to (v := (.int .i64 t.res)) (some 20) rfl rfl (ex_load (p := (.pointer (some ⟨b1, 40, none⟩))) rfl rfl (ld3 (at_cell k1 hT.c40))) ?_
    simp only [Act.put, List.setIfInBounds_toArray, List.set_cons_zero, List.set_cons_succ]
    refine st_to (v := (.pointer (some ⟨b1, 42, none⟩))) (some 21) rfl rfl (ex_fa (p := (.pointer (some ⟨b1, 0, none⟩))) rfl rfl (fa26_10 _ _)) ?_
    simp only [Act.put, List.setIfInBounds_toArray, List.set_cons_zero, List.set_cons_succ]
    refine st_to (v := (.int .i64 t.fl)) (some 22) rfl rfl (ex_load (p := (.pointer (some ⟨b1, 42, none⟩))) rfl rfl (ld3 (at_cell k1 hT.c42))) ?_
    simp only [Act.put, List.setIfInBounds_toArray, List.set_cons_zero, List.set_cons_succ]
    refine st_new (fun b => .slice (some ⟨b, 0, none⟩) 3 3) (some 23) rfl rfl (ex_bsl3 (u := (.int .i64 t.fee)) (r := (.int .i64 t.res)) (s := (.int .i64 t.fl)) rfl rfl rfl rfl (bs82_3 _ _ _ _)) ?_
    intro b3 W4 k3 g3 B
    simp only [Act.put, List.setIfInBounds_toArray, List.set_cons_zero, List.set_cons_succ]
    have ne_b3_b1 : b3 ≠ b1 := fun e => by have := lt_of k1; omega
    have ne_b3_b2 : b3 ≠ b2 := fun e => by have := lt_of k2; omega
    have ge_b3 := Nat.le_trans E.size g3
    replace E := below_next E B
    replace k1 := keep B k1
    replace k2 := keep B k2
    clear B
    refine st_call (some 24) rfl rfl (areAm k3 hb.fee hb.res hb.fl (decide_eq_true c2)) (ex_call (f := 35) (vs := [(.slice (some ⟨b3, 0, none⟩) 3 3)]) rfl (cf35 _) rfl) ?_
    rintro e W5 ⟨rfl, B⟩
    refine ⟨_, rfl, ?_⟩
    simp only [Act.put, List.setIfInBounds_toArray, List.set_cons_zero, List.set_cons_succ]
    replace E := below_next E B
    replace k1 := keep B k1
    replace k2 := keep B k2
    replace k3 := keep B k3
    refine st_to (v := (.bool true)) (some 25) rfl rfl (ex_pkT rfl rfl rfl) ?_
    simp only [Act.put, List.setIfInBounds_toArray, List.set_cons_zero, List.set_cons_succ]
    refine st_to (v := (.bool true)) (some 26) rfl rfl (ex_mv rfl rfl) ?_
    simp only [Act.put, List.setIfInBounds_toArray, List.set_cons_zero, List.set_cons_succ]
    refine st_to (v := (.pointer (some ⟨b1, 0, none⟩))) (some 27) rfl rfl (ex_fa (p := (.pointer (some ⟨b1, 0, none⟩))) rfl rfl (fa26_0 _ _)) ?_
    simp only [Act.put, List.setIfInBounds_toArray, List.set_cons_zero, List.set_cons_succ]
    refine st_to (v := (.int .i64 t.ch)) (some 28) rfl rfl (ex_load (p := (.pointer (some ⟨b1, 0, none⟩))) rfl rfl (ld3 (at_cell k1 hT.c0))) ?_
    simp only [Act.put, List.setIfInBounds_toArray, List.set_cons_zero, List.set_cons_succ]
    refine st_to (v := (.bool true)) (some 29) rfl rfl (ex_bin (u := (.int .i64 t.ch)) (r := (.int .i64 1)) rfl rfl rfl (eg3 _ _ _ _ _ _) (geq3 _ (decide_eq_true c3))) ?_
    simp only [Act.put, List.setIfInBounds_toArray, List.set_cons_zero, List.set_cons_succ]
    refine st_to (v := (.bool true)) (some 30) rfl rfl (ex_pkT rfl rfl rfl) ?_
    simp only [Act.put, List.setIfInBounds_toArray, List.set_cons_zero, List.set_cons_succ]
    refine st_to (v := (.bool true)) (some 31) rfl rfl (ex_mv rfl rfl) ?_
    simp only [Act.put, List.setIfInBounds_toArray, List.set_cons_zero, List.set_cons_succ]
    refine st_to (v := (.pointer (some ⟨b1, 0, none⟩))) (some 32) rfl rfl (ex_fa (p := (.pointer (some ⟨b1, 0, none⟩))) rfl rfl (fa26_0 _ _)) ?_
    simp only [Act.put, List.setIfInBounds_toArray, List.set_cons_zero, List.set_cons_succ]
    refine st_to (v := (.int .i64 t.ch)) (some 33) rfl rfl (ex_load (p := (.pointer (some ⟨b1, 0, none⟩))) rfl rfl (ld3 (at_cell k1 hT.c0))) ?_
    simp only [Act.put, List.setIfInBounds_toArray, List.set_cons_zero, List.set_cons_succ]
    refine st_to (v := (.bool true)) (some 34) rfl rfl (ex_bin (u := (.int .i64 t.ch)) (r := (.int .i64 65535)) rfl rfl rfl (eg3 _ _ _ _ _ _) (leq3 _ (decide_eq_true c4))) ?_
    simp only [Act.put, List.setIfInBounds_toArray, List.set_cons_zero, List.set_cons_succ]
    refine st_to (v := (.bool true)) (some 35) rfl rfl (ex_pkT rfl rfl rfl) ?_
    simp only [Act.put, List.setIfInBounds_toArray, List.set_cons_zero, List.set_cons_succ]
    refine st_to (v := (.bool true)) (some 36) rfl rfl (ex_mv rfl rfl) ?_
    simp only [Act.put, List.setIfInBounds_toArray, List.set_cons_zero, List.set_cons_succ]
    refine st_to (v := (.pointer (some ⟨b1, 1, none⟩))) (some 37) rfl rfl (ex_fa (p := (.pointer (some ⟨b1, 0, none⟩))) rfl rfl (fa26_1 _ _)) ?_
    simp only [Act.put, List.setIfInBounds_toArray, List.set_cons_zero, List.set_cons_succ]
    refine st_to (v := (.int .i64 t.a)) (some 38) rfl rfl (ex_load (p := (.pointer (some ⟨b1, 1, none⟩))) rfl rfl (ld3 (at_cell k1 hT.c1))) ?_
    simp only [Act.put, List.setIfInBounds_toArray, List.set_cons_zero, List.set_cons_succ]
    refine st_to (v := (.bool true)) (some 39) rfl rfl (ex_bin (u := (.int .i64 t.a)) (r := (.int .i64 0)) rfl rfl rfl (eg3 _ _ _ _ _ _) (geq3 _ (decide_eq_true c5))) ?_
    simp only [Act.put, List.setIfInBounds_toArray, List.set_cons_zero, List.set_cons_succ]
    refine st_to (v := (.bool true)) (some 40) rfl rfl (ex_pkT rfl rfl rfl) ?_
    simp only [Act.put, List.setIfInBounds_toArray, List.set_cons_zero, List.set_cons_succ]
    refine st_to (v := (.bool true)) (some 41) rfl rfl (ex_mv rfl rfl) ?_
    simp only [Act.put, List.setIfInBounds_toArray, List.set_cons_zero, List.set_cons_succ]
    refine st_to (v := (.pointer (some ⟨b1, 1, none⟩))) (some 42) rfl rfl (ex_fa (p := (.pointer (some ⟨b1, 0, none⟩))) rfl rfl (fa26_1 _ _)) ?_
    simp only [Act.put, List.setIfInBounds_toArray, List.set_cons_zero, List.set_cons_succ]
    refine st_to (v := (.int .i64 t.a)) (some 43) rfl rfl (ex_load (p := (.pointer (some ⟨b1, 1, none⟩))) rfl rfl (ld3 (at_cell k1 hT.c1))) ?_
    simp only [Act.put, List.setIfInBounds_toArray, List.set_cons_zero, List.set_cons_succ]
    refine st_to (v := (.pointer (some ⟨b1, 2, none⟩))) (some 44) rfl rfl (ex_fa (p := (.pointer (some ⟨b1, 0, none⟩))) rfl rfl (fa26_2 _ _)) ?_
    simp only [Act.put, List.setIfInBounds_toArray, List.set_cons_zero, List.set_cons_succ]
    refine st_to (v := (.int .i64 t.b)) (some 45) rfl rfl (ex_load (p := (.pointer (some ⟨b1, 2, none⟩))) rfl rfl (ld3 (at_cell k1 hT.c2))) ?_
    simp only [Act.put, List.setIfInBounds_toArray, List.set_cons_zero, List.set_cons_succ]
    refine st_to (v := (.bool true)) (some 46) rfl rfl (ex_bin (u := (.int .i64 t.a)) (r := (.int .i64 t.b)) rfl rfl rfl (eg3 _ _ _ _ _ _) (lss3 _ (decide_eq_true c6))) ?_
    simp only [Act.put, List.setIfInBounds_toArray, List.set_cons_zero, List.set_cons_succ]
    refine st_to (v := (.bool true)) (some 47) rfl rfl (ex_pkT rfl rfl rfl) ?_
    simp only [Act.put, List.setIfInBounds_toArray, List.set_cons_zero, List.set_cons_succ]
    refine st_to (v := (.bool true)) (some 48) rfl rfl (ex_mv rfl rfl) ?_
    simp only [Act.put, List.setIfInBounds_toArray, List.set_cons_zero, List.set_cons_succ]
    refine st_to (v := (.pointer (some ⟨b1, 2, none⟩))) (some 49) rfl rfl (ex_fa (p := (.pointer (some ⟨b1, 0, none⟩))) rfl rfl (fa26_2 _ _)) ?_
    simp only [Act.put, List.setIfInBounds_toArray, List.set_cons_zero, List.set_cons_succ]
    refine st_to (v := (.int .i64 t.b)) (some 50) rfl rfl (ex_load (p := (.pointer (some ⟨b1, 2, none⟩))) rfl rfl (ld3 (at_cell k1 hT.c2))) ?_
    simp only [Act.put, List.setIfInBounds_toArray, List.set_cons_zero, List.set_cons_succ]
    refine st_to (v := (.bool false)) (some 51) rfl rfl (ex_bin (u := (.int .i64 t.b)) (r := (.int .i64 8)) rfl rfl rfl (eg3 _ _ _ _ _ _) (lss3 _ (decide_eq_false c7))) ?_
    simp only [Act.put, List.setIfInBounds_toArray, List.set_cons_zero, List.set_cons_succ]
    refine st_to (v := (.bool false)) (some 52) rfl rfl (ex_pkT rfl rfl rfl) ?_
    simp only [Act.put, List.setIfInBounds_toArray, List.set_cons_zero, List.set_cons_succ]
    refine st_to (v := (.bool false)) (some 53) rfl rfl (ex_mv rfl rfl) ?_
    simp only [Act.put, List.setIfInBounds_toArray, List.set_cons_zero, List.set_cons_succ]
    refine st_no (some 54) rfl rfl ?_
    simp only [Act.put, List.setIfInBounds_toArray, List.set_cons_zero, List.set_cons_succ]
    refine st_no (some 55) rfl rfl ?_
    simp only [Act.put, List.setIfInBounds_toArray, List.set_cons_zero, List.set_cons_succ]
    refine st_no (some 56) rfl rfl ?_
    simp only [Act.put, List.setIfInBounds_toArray, List.set_cons_zero, List.set_cons_succ]
    refine st_no (some 57) rfl rfl ?_
    simp only [Act.put, List.setIfInBounds_toArray, List.set_cons_zero, List.set_cons_succ]
    refine st_to (v := (.bool false)) (some 58) rfl rfl (ex_pkF rfl rfl rfl) ?_
    simp only [Act.put, List.setIfInBounds_toArray, List.set_cons_zero, List.set_cons_succ]
    refine st_to (v := (.bool false)) (some 59) rfl rfl (ex_mv rfl rfl) ?_
    simp only [Act.put, List.setIfInBounds_toArray, List.set_cons_zero, List.set_cons_succ]
    refine st_no (some 60) rfl rfl ?_
    simp only [Act.put, List.setIfInBounds_toArray, List.set_cons_zero, List.set_cons_succ]
    refine st_no (some 61) rfl rfl ?_
    simp only [Act.put, List.setIfInBounds_toArray, List.set_cons_zero, List.set_cons_succ]
    refine st_no (some 62) rfl rfl ?_
    simp only [Act.put, List.setIfInBounds_toArray, List.set_cons_zero, List.set_cons_succ]
    refine st_to (v := (.bool false)) (some 63) rfl rfl (ex_pkF rfl rfl rfl) ?_
    simp only [Act.put, List.setIfInBounds_toArray, List.set_cons_zero, List.set_cons_succ]
    refine st_to (v := (.bool false)) (some 64) rfl rfl (ex_mv rfl rfl) ?_
    simp only [Act.put, List.setIfInBounds_toArray, List.set_cons_zero, List.set_cons_succ]
    refine st_no (some 65) rfl rfl ?_
    simp only [Act.put, List.setIfInBounds_toArray, List.set_cons_zero, List.set_cons_succ]
    refine st_no (some 66) rfl rfl ?_
    simp only [Act.put, List.setIfInBounds_toArray, List.set_cons_zero, List.set_cons_succ]
    refine st_no (some 67) rfl rfl ?_
    simp only [Act.put, List.setIfInBounds_toArray, List.set_cons_zero, List.set_cons_succ]
    refine st_to (v := (.bool false)) (some 68) rfl rfl (ex_pkF rfl rfl rfl) ?_
    simp only [Act.put, List.setIfInBounds_toArray, List.set_cons_zero, List.set_cons_succ]
    refine st_to (v := (.bool false)) (some 69) rfl rfl (ex_mv rfl rfl) ?_
    simp only [Act.put, List.setIfInBounds_toArray, List.set_cons_zero, List.set_cons_succ]
    refine st_no (some 70) rfl rfl ?_
    simp only [Act.put, List.setIfInBounds_toArray, List.set_cons_zero, List.set_cons_succ]
    refine st_no (some 71) rfl rfl ?_
    simp only [Act.put, List.setIfInBounds_toArray, List.set_cons_zero, List.set_cons_succ]
    refine st_no (some 72) rfl rfl ?_
    simp only [Act.put, List.setIfInBounds_toArray, List.set_cons_zero, List.set_cons_succ]
    refine st_to (v := (.bool false)) (some 73) rfl rfl (ex_pkF rfl rfl rfl) ?_
    simp only [Act.put, List.setIfInBounds_toArray, List.set_cons_zero, List.set_cons_succ]
    refine st_to (v := (.bool false)) (some 74) rfl rfl (ex_mv rfl rfl) ?_
    simp only [Act.put, List.setIfInBounds_toArray, List.set_cons_zero, List.set_cons_succ]
    refine st_no (some 75) rfl rfl ?_
    simp only [Act.put, List.setIfInBounds_toArray, List.set_cons_zero, List.set_cons_succ]
    refine st_no (some 76) rfl rfl ?_
    simp only [Act.put, List.setIfInBounds_toArray, List.set_cons_zero, List.set_cons_succ]
    refine st_no (some 77) rfl rfl ?_
    simp only [Act.put, List.setIfInBounds_toArray, List.set_cons_zero, List.set_cons_succ]
    refine st_to (v := (.bool false)) (some 78) rfl rfl (ex_pkF rfl rfl rfl) ?_
    simp only [Act.put, List.setIfInBounds_toArray, List.set_cons_zero, List.set_cons_succ]
    refine st_to (v := (.bool false)) (some 2) rfl rfl (ex_asg rfl rfl) ?_
    simp only [Act.put, List.setIfInBounds_toArray, List.set_cons_zero, List.set_cons_succ]
    refine st_end ?_
    subst hQ
    refine wp_ret ?_
    refine bodyPost_ret (results_tmp Try.results12 _ _ _) rfl ⟨?_, E⟩
    show Ending.returned (.bool false) = _
    rw [decide_eq_false (fun h => c7 h.2.2.2.2.2.2.1)]
  by_cases c8 : 0 ≤ t.fo
  rotate_left
  · skip
    have E : Below w.heap.size w w := Below.refl _ _
    go_enter Try.func12, Try.ntmps12
    refine wp_seq ?_
    refine wl_in ?_
    refine wl_cap fun Q hQ => ?_
    refine st_new (fun b => .pointer (some ⟨b, 0, none⟩)) (some 1) rfl rfl (ex_box rfl rfl) ?_
    intro b1 W1 k1 g1 B
    simp only [Act.put, List.setIfInBounds_toArray, List.set_cons_zero, List.set_cons_succ]
    have ge_b1 := Nat.le_trans E.size g1
    replace E := below_next E B
    clear B
    refine st_to (v := (.bool false)) (some 2) rfl rfl (ex_asg rfl rfl) ?_
    simp only [Act.put, List.setIfInBounds_toArray, List.set_cons_zero, List.set_cons_succ]
    refine st_end ?_
    subst hQ
    refine wp_seq ?_
    refine wl_in ?_
    refine wl_cap fun Q hQ => ?_
    refine st_to (v := (.pointer (some ⟨b1, 36, none⟩))) (some 6) rfl rfl (ex_fa (p := (.pointer (some ⟨b1, 0, none⟩))) rfl rfl (fa26_4 _ _)) ?_
    simp only [Act.put, List.setIfInBounds_toArray, List.set_cons_zero, List.set_cons_succ]
    refine st_to (v := (.int .i64 t.sa)) (some 7) rfl rfl (ex_load (p := (.pointer (some ⟨b1, 36, none⟩))) rfl rfl (ld3 (at_cell k1 hT.c36))) ?_
    simp only [Act.put, List.setIfInBounds_toArray, List.set_cons_zero, List.set_cons_succ]
    refine st_to (v := (.pointer (some ⟨b1, 37, none⟩))) (some 8) rfl rfl (ex_fa (p := (.pointer (some ⟨b1, 0, none⟩))) rfl rfl (fa26_5 _ _)) ?_
    simp only [Act.put, List.setIfInBounds_toArray, List.set_cons_zero, List.set_cons_succ]
    refine st_to (v := (.int .i64 t.sb)) (some 9) rfl rfl (ex_load (p := (.pointer (some ⟨b1, 37, none⟩))) rfl rfl (ld3 (at_cell k1 hT.c37))) ?_
    simp only [Act.put, List.setIfInBounds_toArray, List.set_cons_zero, List.set_cons_succ]
    refine st_new (fun b => .slice (some ⟨b, 0, none⟩) 2 2) (some 10) rfl rfl (ex_bsl2 (u := (.int .i64 t.sa)) (r := (.int .i64 t.sb)) rfl rfl rfl (bs82_2 _ _ _)) ?_
    intro b2 W2 k2 g2 B
    simp only [Act.put, List.setIfInBounds_toArray, List.set_cons_zero, List.set_cons_succ]
    have ne_b2_b1 : b2 ≠ b1 := fun e => by have := lt_of k1; omega
    have ge_b2 := Nat.le_trans E.size g2
    replace E := below_next E B
    replace k1 := keep B k1
    clear B
    refine st_call (some 11) rfl rfl (sum2_ok k2 c1) (ex_call (f := 34) (vs := [(.slice (some ⟨b2, 0, none⟩) 2 2)]) rfl (cf34 _) rfl) ?_
    rintro e W3 ⟨rfl, B⟩
    refine ⟨_, rfl, ?_⟩
    simp only [Act.put, List.setIfInBounds_toArray, List.set_cons_zero, List.set_cons_succ]
    replace E := below_next E B
    replace k1 := keep B k1
    replace k2 := keep B k2
    refine st_to (v := (.tuple #[(.int .i64 (t.sa + t.sb)), (.int .i64 0)])) (some 5) rfl rfl (ex_mv rfl rfl) ?_
    simp only [Act.put, List.setIfInBounds_toArray, List.set_cons_zero, List.set_cons_succ]
    refine st_to (v := (.int .i64 (t.sa + t.sb))) (some 12) rfl rfl (ex_ext rfl rfl rfl) ?_
    simp only [Act.put, List.setIfInBounds_toArray, List.set_cons_zero, List.set_cons_succ]
    refine st_to (v := (.int .i64 0)) (some 13) rfl rfl (ex_ext rfl rfl rfl) ?_
    simp only [Act.put, List.setIfInBounds_toArray, List.set_cons_zero, List.set_cons_succ]
    refine st_to (v := (.int .i64 (t.sa + t.sb))) (some 3) rfl rfl (ex_asg rfl rfl) ?_
    simp only [Act.put, List.setIfInBounds_toArray, List.set_cons_zero, List.set_cons_succ]
    refine st_to (v := (.int .i64 0)) (some 4) rfl rfl (ex_asg rfl rfl) ?_
    simp only [Act.put, List.setIfInBounds_toArray, List.set_cons_zero, List.set_cons_succ]
    refine st_end ?_
    subst hQ
    refine wp_seq ?_
    refine wl_in ?_
    refine wl_cap fun Q hQ => ?_
    refine st_to (v := (.int .i64 0)) (some 14) rfl rfl (ex_mv rfl rfl) ?_
    simp only [Act.put, List.setIfInBounds_toArray, List.set_cons_zero, List.set_cons_succ]
    refine st_to (v := (.bool true)) (some 15) rfl rfl (ex_bin (u := (.int .i64 0)) (r := (.int .i64 0)) rfl rfl rfl (eg35 _ _ _ _ _ _) (eql35 _ (by decide))) ?_
    simp only [Act.put, List.setIfInBounds_toArray, List.set_cons_zero, List.set_cons_succ]
    refine st_to (v := (.bool true)) (some 16) rfl rfl (ex_mv rfl rfl) ?_
    simp only [Act.put, List.setIfInBounds_toArray, List.set_cons_zero, List.set_cons_succ]
    refine st_to (v := (.pointer (some ⟨b1, 39, none⟩))) (some 17) rfl rfl (ex_fa (p := (.pointer (some ⟨b1, 0, none⟩))) rfl rfl (fa26_7 _ _)) ?_
    simp only [Act.put, List.setIfInBounds_toArray, List.set_cons_zero, List.set_cons_succ]
    refine st_to (v := (.int .i64 t.fee)) (some 18) rfl rfl (ex_load (p := (.pointer (some ⟨b1, 39, none⟩))) rfl rfl (ld3 (at_cell k1 hT.c39))) ?_
    simp only [Act.put, List.setIfInBounds_toArray, List.set_cons_zero, List.set_cons_succ]
    refine st_to (v := (.pointer (some ⟨b1, 40, none⟩))) (some 19) rfl rfl (ex_fa (p := (.pointer (some ⟨b1, 0, none⟩))) rfl rfl (fa26_8 _ _)) ?_
    simp only [Act.put, List.setIfInBounds_toArray, List.set_cons_zero, List.set_cons_succ]
    refine st_to (v := (.int .i64 t.res)) (some 20) rfl rfl (ex_load (p := (.pointer (some ⟨b1, 40, none⟩))) rfl rfl (ld3 (at_cell k1 hT.c40))) ?_
    simp only [Act.put, List.setIfInBounds_toArray, List.set_cons_zero, List.set_cons_succ]
    refine st_to (v := (.pointer (some ⟨b1, 42, none⟩))) (some 21) rfl rfl (ex_fa (p := (.pointer (some ⟨b1, 0, none⟩))) rfl rfl (fa26_10 _ _)) ?_
    simp only [Act.put, List.setIfInBounds_toArray, List.set_cons_zero, List.set_cons_succ]
    refine st_to (v := (.int .i64 t.fl)) (some 22) rfl rfl (ex_load (p := (.pointer (some ⟨b1, 42, none⟩))) rfl rfl (ld3 (at_cell k1 hT.c42))) ?_
    simp only [Act.put, List.setIfInBounds_toArray, List.set_cons_zero, List.set_cons_succ]
    refine st_new (fun b => .slice (some ⟨b, 0, none⟩) 3 3) (some 23) rfl rfl (ex_bsl3 (u := (.int .i64 t.fee)) (r := (.int .i64 t.res)) (s := (.int .i64 t.fl)) rfl rfl rfl rfl (bs82_3 _ _ _ _)) ?_
    intro b3 W4 k3 g3 B
    simp only [Act.put, List.setIfInBounds_toArray, List.set_cons_zero, List.set_cons_succ]
    have ne_b3_b1 : b3 ≠ b1 := fun e => by have := lt_of k1; omega
    have ne_b3_b2 : b3 ≠ b2 := fun e => by have := lt_of k2; omega
    have ge_b3 := Nat.le_trans E.size g3
    replace E := below_next E B
    replace k1 := keep B k1
    replace k2 := keep B k2
    clear B
    refine st_call (some 24) rfl rfl (areAm k3 hb.fee hb.res hb.fl (decide_eq_true c2)) (ex_call (f := 35) (vs := [(.slice (some ⟨b3, 0, none⟩) 3 3)]) rfl (cf35 _) rfl) ?_
    rintro e W5 ⟨rfl, B⟩
    refine ⟨_, rfl, ?_⟩
    simp only [Act.put, List.setIfInBounds_toArray, List.set_cons_zero, List.set_cons_succ]
    replace E := below_next E B
    replace k1 := keep B k1
    replace k2 := keep B k2
    replace k3 := keep B k3
    refine st_to (v := (.bool true)) (some 25) rfl rfl (ex_pkT rfl rfl rfl) ?_
    simp only [Act.put, List.setIfInBounds_toArray, List.set_cons_zero, List.set_cons_succ]
    refine st_to (v := (.bool true)) (some 26) rfl rfl (ex_mv rfl rfl) ?_
    simp only [Act.put, List.setIfInBounds_toArray, List.set_cons_zero, List.set_cons_succ]
    refine st_to (v := (.pointer (some ⟨b1, 0, none⟩))) (some 27) rfl rfl (ex_fa (p := (.pointer (some ⟨b1, 0, none⟩))) rfl rfl (fa26_0 _ _)) ?_
    simp only [Act.put, List.setIfInBounds_toArray, List.set_cons_zero, List.set_cons_succ]
    refine st_to (v := (.int .i64 t.ch)) (some 28) rfl rfl (ex_load (p := (.pointer (some ⟨b1, 0, none⟩))) rfl rfl (ld3 (at_cell k1 hT.c0))) ?_
    simp only [Act.put, List.setIfInBounds_toArray, List.set_cons_zero, List.set_cons_succ]
    refine st_to (v := (.bool true)) (some 29) rfl rfl (ex_bin (u := (.int .i64 t.ch)) (r := (.int .i64 1)) rfl rfl rfl (eg3 _ _ _ _ _ _) (geq3 _ (decide_eq_true c3))) ?_
    simp only [Act.put, List.setIfInBounds_toArray, List.set_cons_zero, List.set_cons_succ]
    refine st_to (v := (.bool true)) (some 30) rfl rfl (ex_pkT rfl rfl rfl) ?_
    simp only [Act.put, List.setIfInBounds_toArray, List.set_cons_zero, List.set_cons_succ]
    refine st_to (v := (.bool true)) (some 31) rfl rfl (ex_mv rfl rfl) ?_
    simp only [Act.put, List.setIfInBounds_toArray, List.set_cons_zero, List.set_cons_succ]
    refine st_to (v := (.pointer (some ⟨b1, 0, none⟩))) (some 32) rfl rfl (ex_fa (p := (.pointer (some ⟨b1, 0, none⟩))) rfl rfl (fa26_0 _ _)) ?_
    simp only [Act.put, List.setIfInBounds_toArray, List.set_cons_zero, List.set_cons_succ]
    refine st_to (v := (.int .i64 t.ch)) (some 33) rfl rfl (ex_load (p := (.pointer (some ⟨b1, 0, none⟩))) rfl rfl (ld3 (at_cell k1 hT.c0))) ?_
    simp only [Act.put, List.setIfInBounds_toArray, List.set_cons_zero, List.set_cons_succ]
    refine st_to (v := (.bool true)) (some 34) rfl rfl (ex_bin (u := (.int .i64 t.ch)) (r := (.int .i64 65535)) rfl rfl rfl (eg3 _ _ _ _ _ _) (leq3 _ (decide_eq_true c4))) ?_
    simp only [Act.put, List.setIfInBounds_toArray, List.set_cons_zero, List.set_cons_succ]
    refine st_to (v := (.bool true)) (some 35) rfl rfl (ex_pkT rfl rfl rfl) ?_
    simp only [Act.put, List.setIfInBounds_toArray, List.set_cons_zero, List.set_cons_succ]
    refine st_to (v := (.bool true)) (some 36) rfl rfl (ex_mv rfl rfl) ?_
    simp only [Act.put, List.setIfInBounds_toArray, List.set_cons_zero, List.set_cons_succ]
    refine st_to (v := (.pointer (some ⟨b1, 1, none⟩))) (some 37) rfl rfl (ex_fa (p := (.pointer (some ⟨b1, 0, none⟩))) rfl rfl (fa26_1 _ _)) ?_
    simp only [Act.put, List.setIfInBounds_toArray, List.set_cons_zero, List.set_cons_succ]
    refine st_to (v := (.int .i64 t.a)) (some 38) rfl rfl (ex_load (p := (.pointer (some ⟨b1, 1, none⟩))) rfl rfl (ld3 (at_cell k1 hT.c1))) ?_
    simp only [Act.put, List.setIfInBounds_toArray, List.set_cons_zero, List.set_cons_succ]
    refine st_to (v := (.bool true)) (some 39) rfl rfl (ex_bin (u := (.int .i64 t.a)) (r := (.int .i64 0)) rfl rfl rfl (eg3 _ _ _ _ _ _) (geq3 _ (decide_eq_true c5))) ?_
    simp only [Act.put, List.setIfInBounds_toArray, List.set_cons_zero, List.set_cons_succ]
    refine st_to (v := (.bool true)) (some 40) rfl rfl (ex_pkT rfl rfl rfl) ?_
    simp only [Act.put, List.setIfInBounds_toArray, List.set_cons_zero, List.set_cons_succ]
    refine st_to (v := (.bool true)) (some 41) rfl rfl (ex_mv rfl rfl) ?_
    simp only [Act.put, List.setIfInBounds_toArray, List.set_cons_zero, List.set_cons_succ]
    refine st_to (v := (.pointer (some ⟨b1, 1, none⟩))) (some 42) rfl rfl (ex_fa (p := (.pointer (some ⟨b1, 0, none⟩))) rfl rfl (fa26_1 _ _)) ?_
    simp only [Act.put, List.setIfInBounds_toArray, List.set_cons_zero, List.set_cons_succ]
    refine st_to (v := (.int .i64 t.a)) (some 43) rfl rfl (ex_load (p := (.pointer (some ⟨b1, 1, none⟩))) rfl rfl (ld3 (at_cell k1 hT.c1))) ?_
    simp only [Act.put, List.setIfInBounds_toArray, List.set_cons_zero, List.set_cons_succ]
    refine st_to (v := (.pointer (some ⟨b1, 2, none⟩))) (some 44) rfl rfl (ex_fa (p := (.pointer (some ⟨b1, 0, none⟩))) rfl rfl (fa26_2 _ _)) ?_
    simp only [Act.put, List.setIfInBounds_toArray, List.set_cons_zero, List.set_cons_succ]
    refine st_to (v := (.int .i64 t.b)) (some 45) rfl rfl (ex_load (p := (.pointer (some ⟨b1, 2, none⟩))) rfl rfl (ld3 (at_cell k1 hT.c2))) ?_
    simp only [Act.put, List.setIfInBounds_toArray, List.set_cons_zero, List.set_cons_succ]
    refine st_to (v := (.bool true)) (some 46) rfl rfl (ex_bin (u := (.int .i64 t.a)) (r := (.int .i64 t.b)) rfl rfl rfl (eg3 _ _ _ _ _ _) (lss3 _ (decide_eq_true c6))) ?_
    simp only [Act.put, List.setIfInBounds_toArray, List.set_cons_zero, List.set_cons_succ]
    refine st_to (v := (.bool true)) (some 47) rfl rfl (ex_pkT rfl rfl rfl) ?_
    simp only [Act.put, List.setIfInBounds_toArray, List.set_cons_zero, List.set_cons_succ]
    refine st_to (v := (.bool true)) (some 48) rfl rfl (ex_mv rfl rfl) ?_
    simp only [Act.put, List.setIfInBounds_toArray, List.set_cons_zero, List.set_cons_succ]
    refine st_to (v := (.pointer (some ⟨b1, 2, none⟩))) (some 49) rfl rfl (ex_fa (p := (.pointer (some ⟨b1, 0, none⟩))) rfl rfl (fa26_2 _ _)) ?_
    simp only [Act.put, List.setIfInBounds_toArray, List.set_cons_zero, List.set_cons_succ]
    refine st_to (v := (.int .i64 t.b)) (some 50) rfl rfl (ex_load (p := (.pointer (some ⟨b1, 2, none⟩))) rfl rfl (ld3 (at_cell k1 hT.c2))) ?_
    simp only [Act.put, List.setIfInBounds_toArray, List.set_cons_zero, List.set_cons_succ]
    refine st_to (v := (.bool true)) (some 51) rfl rfl (ex_bin (u := (.int .i64 t.b)) (r := (.int .i64 8)) rfl rfl rfl (eg3 _ _ _ _ _ _) (lss3 _ (decide_eq_true c7))) ?_
    simp only [Act.put, List.setIfInBounds_toArray, List.set_cons_zero, List.set_cons_succ]
    refine st_to (v := (.bool true)) (some 52) rfl rfl (ex_pkT rfl rfl rfl) ?_
    simp only [Act.put, List.setIfInBounds_toArray, List.set_cons_zero, List.set_cons_succ]
    refine st_to (v := (.bool true)) (some 53) rfl rfl (ex_mv rfl rfl) ?_
    simp only [Act.put, List.setIfInBounds_toArray, List.set_cons_zero, List.set_cons_succ]
    refine st_to (v := (.pointer (some ⟨b1, 3, none⟩))) (some 54) rfl rfl (ex_fa (p := (.pointer (some ⟨b1, 0, none⟩))) rfl rfl (fa26_3 _ _)) ?_
    simp only [Act.put, List.setIfInBounds_toArray, List.set_cons_zero, List.set_cons_succ]
    refine st_to (v := (.pointer (some ⟨b1, 35, none⟩))) (some 55) rfl rfl (ex_fa rfl rfl (faR _ 0 _)) ?_
    simp only [Act.put, List.setIfInBounds_toArray, List.set_cons_zero, List.set_cons_succ]
    refine st_to (v := (.int .i64 t.fo)) (some 56) rfl rfl (ex_load (p := (.pointer (some ⟨b1, 35, none⟩))) rfl rfl (ld3 (at_cell k1 hT.c35))) ?_
    simp only [Act.put, List.setIfInBounds_toArray, List.set_cons_zero, List.set_cons_succ]
    refine st_to (v := (.bool false)) (some 57) rfl rfl (ex_bin (u := (.int .i64 t.fo)) (r := (.int .i64 0)) rfl rfl rfl (eg3 _ _ _ _ _ _) (geq3 _ (decide_eq_false c8))) ?_
    simp only [Act.put, List.setIfInBounds_toArray, List.set_cons_zero, List.set_cons_succ]
    refine st_to (v := (.bool false)) (some 58) rfl rfl (ex_pkT rfl rfl rfl) ?_
    simp only [Act.put, List.setIfInBounds_toArray, List.set_cons_zero, List.set_cons_succ]
    refine st_to (v := (.bool false)) (some 59) rfl rfl (ex_mv rfl rfl) ?_
    simp only [Act.put, List.setIfInBounds_toArray, List.set_cons_zero, List.set_cons_succ]
    refine st_no (some 60) rfl rfl ?_
    simp only [Act.put, List.setIfInBounds_toArray, List.set_cons_zero, List.set_cons_succ]
    refine st_no (some 61) rfl rfl ?_
    simp only [Act.put, List.setIfInBounds_toArray, List.set_cons_zero, List.set_cons_succ]
    refine st_no (some 62) rfl rfl ?_
    simp only [Act.put, List.setIfInBounds_toArray, List.set_cons_zero, List.set_cons_succ]
    refine st_to (v := (.bool false)) (some 63) rfl rfl (ex_pkF rfl rfl rfl) ?_
    simp only [Act.put, List.setIfInBounds_toArray, List.set_cons_zero, List.set_cons_succ]
    refine st_to (v := (.bool false)) (some 64) rfl rfl (ex_mv rfl rfl) ?_
    simp only [Act.put, List.setIfInBounds_toArray, List.set_cons_zero, List.set_cons_succ]
    refine st_no (some 65) rfl rfl ?_
    simp only [Act.put, List.setIfInBounds_toArray, List.set_cons_zero, List.set_cons_succ]
    refine st_no (some 66) rfl rfl ?_
    simp only [Act.put, List.setIfInBounds_toArray, List.set_cons_zero, List.set_cons_succ]
    refine st_no (some 67) rfl rfl ?_
    simp only [Act.put, List.setIfInBounds_toArray, List.set_cons_zero, List.set_cons_succ]
    refine st_to (v := (.bool false)) (some 68) rfl rfl (ex_pkF rfl rfl rfl) ?_
    simp only [Act.put, List.setIfInBounds_toArray, List.set_cons_zero, List.set_cons_succ]
    refine st_to (v := (.bool false)) (some 69) rfl rfl (ex_mv rfl rfl) ?_
    simp only [Act.put, List.setIfInBounds_toArray, List.set_cons_zero, List.set_cons_succ]
    refine st_no (some 70) rfl rfl ?_
    simp only [Act.put, List.setIfInBounds_toArray, List.set_cons_zero, List.set_cons_succ]
    refine st_no (some 71) rfl rfl ?_
    simp only [Act.put, List.setIfInBounds_toArray, List.set_cons_zero, List.set_cons_succ]
    refine st_no (some 72) rfl rfl ?_
    simp only [Act.put, List.setIfInBounds_toArray, List.set_cons_zero, List.set_cons_succ]
    refine st_to (v := (.bool false)) (some 73) rfl rfl (ex_pkF rfl rfl rfl) ?_
    simp only [Act.put, List.setIfInBounds_toArray, List.set_cons_zero, List.set_cons_succ]
    refine st_to (v := (.bool false)) (some 74) rfl rfl (ex_mv rfl rfl) ?_
    simp only [Act.put, List.setIfInBounds_toArray, List.set_cons_zero, List.set_cons_succ]
    refine st_no (some 75) rfl rfl ?_
    simp only [Act.put, List.setIfInBounds_toArray, List.set_cons_zero, List.set_cons_succ]
    refine st_no (some 76) rfl rfl ?_
    simp only [Act.put, List.setIfInBounds_toArray, List.set_cons_zero, List.set_cons_succ]
    refine st_no (some 77) rfl rfl ?_
    simp only [Act.put, List.setIfInBounds_toArray, List.set_cons_zero, List.set_cons_succ]
    refine st_to (v := (.bool false)) (some 78) rfl rfl (ex_pkF rfl rfl rfl) ?_
    simp only [Act.put, List.setIfInBounds_toArray, List.set_cons_zero, List.set_cons_succ]
    refine st_to (v := (.bool false)) (some 2) rfl rfl (ex_asg rfl rfl) ?_
    simp only [Act.put, List.setIfInBounds_toArray, List.set_cons_zero, List.set_cons_succ]
    refine st_end ?_
    subst hQ
    refine wp_ret ?_
    refine bodyPost_ret (results_tmp Try.results12 _ _ _) rfl ⟨?_, E⟩
    show Ending.returned (.bool false) = _
    rw [decide_eq_false (fun h => c8 h.2.2.2.2.2.2.2.1)]
  by_cases c9 : 1 ≤ t.d
  rotate_left
  · skip
    have E : Below w.heap.size w w := Below.refl _ _
    go_enter Try.func12, Try.ntmps12
    refine wp_seq ?_
    refine wl_in ?_
    refine wl_cap fun Q hQ => ?_
    refine st_new (fun b => .pointer (some ⟨b, 0, none⟩)) (some 1) rfl rfl (ex_box rfl rfl) ?_
    intro b1 W1 k1 g1 B
    simp only [Act.put, List.setIfInBounds_toArray, List.set_cons_zero, List.set_cons_succ]
    have ge_b1 := Nat.le_trans E.size g1
    replace E := below_next E B
    clear B
    refine st_to (v := (.bool false)) (some 2) rfl rfl (ex_asg rfl rfl) ?_
    simp only [Act.put, List.setIfInBounds_toArray, List.set_cons_zero, List.set_cons_succ]
    refine st_end ?_
    subst hQ
    refine wp_seq ?_
    refine wl_in ?_
    refine wl_cap fun Q hQ => ?_
    refine st_to (v := (.pointer (some ⟨b1, 36, none⟩))) (some 6) rfl rfl (ex_fa (p := (.pointer (some ⟨b1, 0, none⟩))) rfl rfl (fa26_4 _ _)) ?_
    simp only [Act.put, List.setIfInBounds_toArray, List.set_cons_zero, List.set_cons_succ]
    refine st_to (v := (.int .i64 t.sa)) (some 7) rfl rfl (ex_load (p := (.pointer (some ⟨b1, 36, none⟩))) rfl rfl (ld3 (at_cell k1 hT.c36))) ?_
    simp only [Act.put, List.setIfInBounds_toArray, List.set_cons_zero, List.set_cons_succ]
    refine st_to (v := (.pointer (some ⟨b1, 37, none⟩))) (some 8) rfl rfl (ex_fa (p := (.pointer (some ⟨b1, 0, none⟩))) rfl rfl (fa26_5 _ _)) ?_
    simp only [Act.put, List.setIfInBounds_toArray, List.set_cons_zero, List.set_cons_succ]
    refine st_to (v := (.int .i64 t.sb)) (some 9) rfl rfl (ex_load (p := (.pointer (some ⟨b1, 37, none⟩))) rfl rfl (ld3 (at_cell k1 hT.c37))) ?_
    simp only [Act.put, List.setIfInBounds_toArray, List.set_cons_zero, List.set_cons_succ]
    refine st_new (fun b => .slice (some ⟨b, 0, none⟩) 2 2) (some 10) rfl rfl (ex_bsl2 (u := (.int .i64 t.sa)) (r := (.int .i64 t.sb)) rfl rfl rfl (bs82_2 _ _ _)) ?_
    intro b2 W2 k2 g2 B
    simp only [Act.put, List.setIfInBounds_toArray, List.set_cons_zero, List.set_cons_succ]
    have ne_b2_b1 : b2 ≠ b1 := fun e => by have := lt_of k1; omega
    have ge_b2 := Nat.le_trans E.size g2
    replace E := below_next E B
    replace k1 := keep B k1
    clear B
    refine st_call (some 11) rfl rfl (sum2_ok k2 c1) (ex_call (f := 34) (vs := [(.slice (some ⟨b2, 0, none⟩) 2 2)]) rfl (cf34 _) rfl) ?_
    rintro e W3 ⟨rfl, B⟩
    refine ⟨_, rfl, ?_⟩
    simp only [Act.put, List.setIfInBounds_toArray, List.set_cons_zero, List.set_cons_succ]
    replace E := below_next E B
    replace k1 := keep B k1
    replace k2 := keep B k2
    refine st_to (v := (.tuple #[(.int .i64 (t.sa + t.sb)), (.int .i64 0)])) (some 5) rfl rfl (ex_mv rfl rfl) ?_
    simp only [Act.put, List.setIfInBounds_toArray, List.set_cons_zero, List.set_cons_succ]
    refine st_to (v := (.int .i64 (t.sa + t.sb))) (some 12) rfl rfl (ex_ext rfl rfl rfl) ?_
    simp only [Act.put, List.setIfInBounds_toArray, List.set_cons_zero, List.set_cons_succ]
    refine st_to (v := (.int .i64 0)) (some 13) rfl rfl (ex_ext rfl rfl rfl) ?_
    simp only [Act.put, List.setIfInBounds_toArray, List.set_cons_zero, List.set_cons_succ]
    refine st_to (v := (.int .i64 (t.sa + t.sb))) (some 3) rfl rfl (ex_asg rfl rfl) ?_
    simp only [Act.put, List.setIfInBounds_toArray, List.set_cons_zero, List.set_cons_succ]
    refine st_to (v := (.int .i64 0)) (some 4) rfl rfl (ex_asg rfl rfl) ?_
    simp only [Act.put, List.setIfInBounds_toArray, List.set_cons_zero, List.set_cons_succ]
    refine st_end ?_
    subst hQ
    refine wp_seq ?_
    refine wl_in ?_
    refine wl_cap fun Q hQ => ?_
    refine st_to (v := (.int .i64 0)) (some 14) rfl rfl (ex_mv rfl rfl) ?_
    simp only [Act.put, List.setIfInBounds_toArray, List.set_cons_zero, List.set_cons_succ]
    refine st_to (v := (.bool true)) (some 15) rfl rfl (ex_bin (u := (.int .i64 0)) (r := (.int .i64 0)) rfl rfl rfl (eg35 _ _ _ _ _ _) (eql35 _ (by decide))) ?_
    simp only [Act.put, List.setIfInBounds_toArray, List.set_cons_zero, List.set_cons_succ]
    refine st_to (v := (.bool true)) (some 16) rfl rfl (ex_mv rfl rfl) ?_
    simp only [Act.put, List.setIfInBounds_toArray, List.set_cons_zero, List.set_cons_succ]
    refine st_to (v := (.pointer (some ⟨b1, 39, none⟩))) (some 17) rfl rfl (ex_fa (p := (.pointer (some ⟨b1, 0, none⟩))) rfl rfl (fa26_7 _ _)) ?_
    simp only [Act.put, List.setIfInBounds_toArray, List.set_cons_zero, List.set_cons_succ]
    refine st_to (v := (.int .i64 t.fee)) (some 18) rfl rfl (ex_load (p := (.pointer (some ⟨b1, 39, none⟩))) rfl rfl (ld3 (at_cell k1 hT.c39))) ?_
    simp only [Act.put, List.setIfInBounds_toArray, List.set_cons_zero, List.set_cons_succ]
    refine st_to (v := (.pointer (some ⟨b1, 40, none⟩))) (some 19) rfl rfl (ex_fa (p := (.pointer (some ⟨b1, 0, none⟩))) rfl rfl (fa26_8 _ _)) ?_
    simp only [Act.put, List.setIfInBounds_toArray, List.set_cons_zero, List.set_cons_succ]
    refine st_to (v := (.int .i64 t.res)) (some 20) rfl rfl (ex_load (p := (.pointer (some ⟨b1, 40, none⟩))) rfl rfl (ld3 (at_cell k1 hT.c40))) ?_
    simp only [Act.put, List.setIfInBounds_toArray, List.set_cons_zero, List.set_cons_succ]
    refine st_to (v := (.pointer (some ⟨b1, 42, none⟩))) (some 21) rfl rfl (ex_fa (p := (.pointer (some ⟨b1, 0, none⟩))) rfl rfl (fa26_10 _ _)) ?_
    simp only [Act.put, List.setIfInBounds_toArray, List.set_cons_zero, List.set_cons_succ]
    refine st_to (v := (.int .i64 t.fl)) (some 22) rfl rfl (ex_load (p := (.pointer (some ⟨b1, 42, none⟩))) rfl rfl (ld3 (at_cell k1 hT.c42))) ?_
    simp only [Act.put, List.setIfInBounds_toArray, List.set_cons_zero, List.set_cons_succ]
    refine st_new (fun b => .slice (some ⟨b, 0, none⟩) 3 3) (some 23) rfl rfl (ex_bsl3 (u := (.int .i64 t.fee)) (r := (.int .i64 t.res)) (s := (.int .i64 t.fl)) rfl rfl rfl rfl (bs82_3 _ _ _ _)) ?_
    intro b3 W4 k3 g3 B
    simp only [Act.put, List.setIfInBounds_toArray, List.set_cons_zero, List.set_cons_succ]
    have ne_b3_b1 : b3 ≠ b1 := fun e => by have := lt_of k1; omega
    have ne_b3_b2 : b3 ≠ b2 := fun e => by have := lt_of k2; omega
    have ge_b3 := Nat.le_trans E.size g3
    replace E := below_next E B
    replace k1 := keep B k1
    replace k2 := keep B k2
    clear B
    refine st_call (some 24) rfl rfl (areAm k3 hb.fee hb.res hb.fl (decide_eq_true c2)) (ex_call (f := 35) (vs := [(.slice (some ⟨b3, 0, none⟩) 3 3)]) rfl (cf35 _) rfl) ?_
    rintro e W5 ⟨rfl, B⟩
    refine ⟨_, rfl, ?_⟩
    simp only [Act.put, List.setIfInBounds_toArray, List.set_cons_zero, List.set_cons_succ]
    replace E := below_next E B
    replace k1 := keep B k1
    replace k2 := keep B k2
    replace k3 := keep B k3
    refine st_to (v := (.bool true)) (some 25) rfl rfl (ex_pkT rfl rfl rfl) ?_
    simp only [Act.put, List.setIfInBounds_toArray, List.set_cons_zero, List.set_cons_succ]
    refine st_to (v := (.bool true)) (some 26) rfl rfl (ex_mv rfl rfl) ?_
    simp only [Act.put, List.setIfInBounds_toArray, List.set_cons_zero, List.set_cons_succ]
    refine st_to (v := (.pointer (some ⟨b1, 0, none⟩))) (some 27) rfl rfl (ex_fa (p := (.pointer (some ⟨b1, 0, none⟩))) rfl rfl (fa26_0 _ _)) ?_
    simp only [Act.put, List.setIfInBounds_toArray, List.set_cons_zero, List.set_cons_succ]
    refine st_to (v := (.int .i64 t.ch)) (some 28) rfl rfl (ex_load (p := (.pointer (some ⟨b1, 0, none⟩))) rfl rfl (ld3 (at_cell k1 hT.c0))) ?_
    simp only [Act.put, List.setIfInBounds_toArray, List.set_cons_zero, List.set_cons_succ]
    refine st_to (v := (.bool true)) (some 29) rfl rfl (ex_bin (u := (.int .i64 t.ch)) (r := (.int .i64 1)) rfl rfl rfl (eg3 _ _ _ _ _ _) (geq3 _ (decide_eq_true c3))) ?_
    simp only [Act.put, List.setIfInBounds_toArray, List.set_cons_zero, List.set_cons_succ]
    refine st_to (v := (.bool true)) (some 30) rfl rfl (ex_pkT rfl rfl rfl) ?_
    simp only [Act.put, List.setIfInBounds_toArray, List.set_cons_zero, List.set_cons_succ]
    refine st_to (v := (.bool true)) (some 31) rfl rfl (ex_mv rfl rfl) ?_
    simp only [Act.put, List.setIfInBounds_toArray, List.set_cons_zero, List.set_cons_succ]
    refine st_to (v := (.pointer (some ⟨b1, 0, none⟩))) (some 32) rfl rfl (ex_fa (p := (.pointer (some ⟨b1, 0, none⟩))) rfl rfl (fa26_0 _ _)) ?_
    simp only [Act.put, List.setIfInBounds_toArray, List.set_cons_zero, List.set_cons_succ]
    refine st_to (v := (.int .i64 t.ch)) (some 33) rfl rfl (ex_load (p := (.pointer (some ⟨b1, 0, none⟩))) rfl rfl (ld3 (at_cell k1 hT.c0))) ?_
    simp only [Act.put, List.setIfInBounds_toArray, List.set_cons_zero, List.set_cons_succ]
    refine st_to (v := (.bool true)) (some 34) rfl rfl (ex_bin (u := (.int .i64 t.ch)) (r := (.int .i64 65535)) rfl rfl rfl (eg3 _ _ _ _ _ _) (leq3 _ (decide_eq_true c4))) ?_
    simp only [Act.put, List.setIfInBounds_toArray, List.set_cons_zero, List.set_cons_succ]
    refine st_to (v := (.bool true)) (some 35) rfl rfl (ex_pkT rfl rfl rfl) ?_
    simp only [Act.put, List.setIfInBounds_toArray, List.set_cons_zero, List.set_cons_succ]
    refine st_to (v := (.bool true)) (some 36) rfl rfl (ex_mv rfl rfl) ?_
    simp only [Act.put, List.setIfInBounds_toArray, List.set_cons_zero, List.set_cons_succ]
    refine st_to (v := (.pointer (some ⟨b1, 1, none⟩))) (some 37) rfl rfl (ex_fa (p := (.pointer (some ⟨b1, 0, none⟩))) rfl rfl (fa26_1 _ _)) ?_
    simp only [Act.put, List.setIfInBounds_toArray, List.set_cons_zero, List.set_cons_succ]
    refine st_to (v := (.int .i64 t.a)) (some 38) rfl rfl (ex_load (p := (.pointer (some ⟨b1, 1, none⟩))) rfl rfl (ld3 (at_cell k1 hT.c1))) ?_
    simp only [Act.put, List.setIfInBounds_toArray, List.set_cons_zero, List.set_cons_succ]
    refine st_to (v := (.bool true)) (some 39) rfl rfl (ex_bin (u := (.int .i64 t.a)) (r := (.int .i64 0)) rfl rfl rfl (eg3 _ _ _ _ _ _) (geq3 _ (decide_eq_true c5))) ?_
    simp only [Act.put, List.setIfInBounds_toArray, List.set_cons_zero, List.set_cons_succ]
    refine st_to (v := (.bool true)) (some 40) rfl rfl (ex_pkT rfl rfl rfl) ?_
    simp only [Act.put, List.setIfInBounds_toArray, List.set_cons_zero, List.set_cons_succ]
    refine st_to (v := (.bool true)) (some 41) rfl rfl (ex_mv rfl rfl) ?_
    simp only [Act.put, List.setIfInBounds_toArray, List.set_cons_zero, List.set_cons_succ]
    refine st_to (v := (.pointer (some ⟨b1, 1, none⟩))) (some 42) rfl rfl (ex_fa (p := (.pointer (some ⟨b1, 0, none⟩))) rfl rfl (fa26_1 _ _)) ?_
    simp only [Act.put, List.setIfInBounds_toArray, List.set_cons_zero, List.set_cons_succ]
    refine st_to (v := (.int .i64 t.a)) (some 43) rfl rfl (ex_load (p := (.pointer (some ⟨b1, 1, none⟩))) rfl rfl (ld3 (at_cell k1 hT.c1))) ?_
    simp only [Act.put, List.setIfInBounds_toArray, List.set_cons_zero, List.set_cons_succ]
    refine st_to (v := (.pointer (some ⟨b1, 2, none⟩))) (some 44) rfl rfl (ex_fa (p := (.pointer (some ⟨b1, 0, none⟩))) rfl rfl (fa26_2 _ _)) ?_
    simp only [Act.put, List.setIfInBounds_toArray, List.set_cons_zero, List.set_cons_succ]
    refine st_to (v := (.int .i64 t.b)) (some 45) rfl rfl (ex_load (p := (.pointer (some ⟨b1, 2, none⟩))) rfl rfl (ld3 (at_cell k1 hT.c2))) ?_
    simp only [Act.put, List.setIfInBounds_toArray, List.set_cons_zero, List.set_cons_succ]
    refine st_to (v := (.bool true)) (some 46) rfl rfl (ex_bin (u := (.int .i64 t.a)) (r := (.int .i64 t.b)) rfl rfl rfl (eg3 _ _ _ _ _ _) (lss3 _ (decide_eq_true c6))) ?_
    simp only [Act.put, List.setIfInBounds_toArray, List.set_cons_zero, List.set_cons_succ]
    refine st_to (v := (.bool true)) (some 47) rfl rfl (ex_pkT rfl rfl rfl) ?_
    simp only [Act.put, List.setIfInBounds_toArray, List.set_cons_zero, List.set_cons_succ]
    refine st_to (v := (.bool true)) (some 48) rfl rfl (ex_mv rfl rfl) ?_
    simp only [Act.put, List.setIfInBounds_toArray, List.set_cons_zero, List.set_cons_succ]
    refine st_to (v := (.pointer (some ⟨b1, 2, none⟩))) (some 49) rfl rfl (ex_fa (p := (.pointer (some ⟨b1, 0, none⟩))) rfl rfl (fa26_2 _ _)) ?_
    simp only [Act.put, List.setIfInBounds_toArray, List.set_cons_zero, List.set_cons_succ]
    refine st_to (v := (.int .i64 t.b)) (some 50) rfl rfl (ex_load (p := (.pointer (some ⟨b1, 2, none⟩))) rfl rfl (ld3 (at_cell k1 hT.c2))) ?_
    simp only [Act.put, List.setIfInBounds_toArray, List.set_cons_zero, List.set_cons_succ]
    refine st_to (v := (.bool true)) (some 51) rfl rfl (ex_bin (u := (.int .i64 t.b)) (r := (.int .i64 8)) rfl rfl rfl (eg3 _ _ _ _ _ _) (lss3 _ (decide_eq_true c7))) ?_
    simp only [Act.put, List.setIfInBounds_toArray, List.set_cons_zero, List.set_cons_succ]
    refine st_to (v := (.bool true)) (some 52) rfl rfl (ex_pkT rfl rfl rfl) ?_
    simp only [Act.put, List.setIfInBounds_toArray, List.set_cons_zero, List.set_cons_succ]
    refine st_to (v := (.bool true)) (some 53) rfl rfl (ex_mv rfl rfl) ?_
    simp only [Act.put, List.setIfInBounds_toArray, List.set_cons_zero, List.set_cons_succ]
    refine st_to (v := (.pointer (some ⟨b1, 3, none⟩))) (some 54) rfl rfl (ex_fa (p := (.pointer (some ⟨b1, 0, none⟩))) rfl rfl (fa26_3 _ _)) ?_
    simp only [Act.put, List.setIfInBounds_toArray, List.set_cons_zero, List.set_cons_succ]
    refine st_to (v := (.pointer (some ⟨b1, 35, none⟩))) (some 55) rfl rfl (ex_fa rfl rfl (faR _ 0 _)) ?_
    simp only [Act.put, List.setIfInBounds_toArray, List.set_cons_zero, List.set_cons_succ]
    refine st_to (v := (.int .i64 t.fo)) (some 56) rfl rfl (ex_load (p := (.pointer (some ⟨b1, 35, none⟩))) rfl rfl (ld3 (at_cell k1 hT.c35))) ?_
    simp only [Act.put, List.setIfInBounds_toArray, List.set_cons_zero, List.set_cons_succ]
    refine st_to (v := (.bool true)) (some 57) rfl rfl (ex_bin (u := (.int .i64 t.fo)) (r := (.int .i64 0)) rfl rfl rfl (eg3 _ _ _ _ _ _) (geq3 _ (decide_eq_true c8))) ?_
    simp only [Act.put, List.setIfInBounds_toArray, List.set_cons_zero, List.set_cons_succ]
    refine st_to (v := (.bool true)) (some 58) rfl rfl (ex_pkT rfl rfl rfl) ?_
    simp only [Act.put, List.setIfInBounds_toArray, List.set_cons_zero, List.set_cons_succ]
    refine st_to (v := (.bool true)) (some 59) rfl rfl (ex_mv rfl rfl) ?_
    simp only [Act.put, List.setIfInBounds_toArray, List.set_cons_zero, List.set_cons_succ]
    refine st_to (v := (.pointer (some ⟨b1, 38, none⟩))) (some 60) rfl rfl (ex_fa (p := (.pointer (some ⟨b1, 0, none⟩))) rfl rfl (fa26_6 _ _)) ?_
    simp only [Act.put, List.setIfInBounds_toArray, List.set_cons_zero, List.set_cons_succ]
    refine st_to (v := (.int .i64 t.d)) (some 61) rfl rfl (ex_load (p := (.pointer (some ⟨b1, 38, none⟩))) rfl rfl (ld3 (at_cell k1 hT.c38))) ?_
    simp only [Act.put, List.setIfInBounds_toArray, List.set_cons_zero, List.set_cons_succ]
    refine st_to (v := (.bool false)) (some 62) rfl rfl (ex_bin (u := (.int .i64 t.d)) (r := (.int .i64 1)) rfl rfl rfl (eg3 _ _ _ _ _ _) (geq3 _ (decide_eq_false c9))) ?_
    simp only [Act.put, List.setIfInBounds_toArray, List.set_cons_zero, List.set_cons_succ]
    refine st_to (v := (.bool false)) (some 63) rfl rfl (ex_pkT rfl rfl rfl) ?_
    simp only [Act.put, List.setIfInBounds_toArray, List.set_cons_zero, List.set_cons_succ]
    refine st_to (v := (.bool false)) (some 64) rfl rfl (ex_mv rfl rfl) ?_
    simp only [Act.put, List.setIfInBounds_toArray, List.set_cons_zero, List.set_cons_succ]
    refine st_no (some 65) rfl rfl ?_
    simp only [Act.put, List.setIfInBounds_toArray, List.set_cons_zero, List.set_cons_succ]
    refine st_no (some 66) rfl rfl ?_
    simp only [Act.put, List.setIfInBounds_toArray, List.set_cons_zero, List.set_cons_succ]
    refine st_no (some 67) rfl rfl ?_
    simp only [Act.put, List.setIfInBounds_toArray, List.set_cons_zero, List.set_cons_succ]
    refine st_to (v := (.bool false)) (some 68) rfl rfl (ex_pkF rfl rfl rfl) ?_
    simp only [Act.put, List.setIfInBounds_toArray, List.set_cons_zero, List.set_cons_succ]
    refine st_to (v := (.bool false)) (some 69) rfl rfl (ex_mv rfl rfl) ?_
    simp only [Act.put, List.setIfInBounds_toArray, List.set_cons_zero, List.set_cons_succ]
    refine st_no (some 70) rfl rfl ?_
    simp only [Act.put, List.setIfInBounds_toArray, List.set_cons_zero, List.set_cons_succ]
    refine st_no (some 71) rfl rfl ?_
    simp only [Act.put, List.setIfInBounds_toArray, List.set_cons_zero, List.set_cons_succ]
    refine st_no (some 72) rfl rfl ?_
    simp only [Act.put, List.setIfInBounds_toArray, List.set_cons_zero, List.set_cons_succ]
    refine st_to (v := (.bool false)) (some 73) rfl rfl (ex_pkF rfl rfl rfl) ?_
    simp only [Act.put, List.setIfInBounds_toArray, List.set_cons_zero, List.set_cons_succ]
    refine st_to (v := (.bool false)) (some 74) rfl rfl (ex_mv rfl rfl) ?_
    simp only [Act.put, List.setIfInBounds_toArray, List.set_cons_zero, List.set_cons_succ]
    refine st_no (some 75) rfl rfl ?_
    simp only [Act.put, List.setIfInBounds_toArray, List.set_cons_zero, List.set_cons_succ]
    refine st_no (some 76) rfl rfl ?_
    simp only [Act.put, List.setIfInBounds_toArray, List.set_cons_zero, List.set_cons_succ]
    refine st_no (some 77) rfl rfl ?_
    simp only [Act.put, List.setIfInBounds_toArray, List.set_cons_zero, List.set_cons_succ]
    refine st_to (v := (.bool false)) (some 78) rfl rfl (ex_pkF rfl rfl rfl) ?_
    simp only [Act.put, List.setIfInBounds_toArray, List.set_cons_zero, List.set_cons_succ]
    refine st_to (v := (.bool false)) (some 2) rfl rfl (ex_asg rfl rfl) ?_
    simp only [Act.put, List.setIfInBounds_toArray, List.set_cons_zero, List.set_cons_succ]
    refine st_end ?_
    subst hQ
    refine wp_ret ?_
    refine bodyPost_ret (results_tmp Try.results12 _ _ _) rfl ⟨?_, E⟩
    show Ending.returned (.bool false) = _
    rw [decide_eq_false (fun h => c9 h.2.2.2.2.2.2.2.2.1)]
  by_cases c10 : t.d ≤ 1000
  rotate_left
  · skip
    have E : Below w.heap.size w w := Below.refl _ _
    go_enter Try.func12, Try.ntmps12
    refine wp_seq ?_
    refine wl_in ?_
    refine wl_cap fun Q hQ => ?_
    refine st_new (fun b => .pointer (some ⟨b, 0, none⟩)) (some 1) rfl rfl (ex_box rfl rfl) ?_
    intro b1 W1 k1 g1 B
    simp only [Act.put, List.setIfInBounds_toArray, List.set_cons_zero, List.set_cons_succ]
    have ge_b1 := Nat.le_trans E.size g1
    replace E := below_next E B
    clear B
    refine st_to (v := (.bool false)) (some 2) rfl rfl (ex_asg rfl rfl) ?_
    simp only [Act.put, List.setIfInBounds_toArray, List.set_cons_zero, List.set_cons_succ]
    refine st_end ?_
    subst hQ
    refine wp_seq ?_
    refine wl_in ?_
    refine wl_cap fun Q hQ => ?_
    refine st_to (v := (.pointer (some ⟨b1, 36, none⟩))) (some 6) rfl rfl (ex_fa (p := (.pointer (some ⟨b1, 0, none⟩))) rfl rfl (fa26_4 _ _)) ?_
    simp only [Act.put, List.setIfInBounds_toArray, List.set_cons_zero, List.set_cons_succ]
    refine st_to (v := (.int .i64 t.sa)) (some 7) rfl rfl (ex_load (p := (.pointer (some ⟨b1, 36, none⟩))) rfl rfl (ld3 (at_cell k1 hT.c36))) ?_
    simp only [Act.put, List.setIfInBounds_toArray, List.set_cons_zero, List.set_cons_succ]
    refine st_to (v := (.pointer (some ⟨b1, 37, none⟩))) (some 8) rfl rfl (ex_fa (p := (.pointer (some ⟨b1, 0, none⟩))) rfl rfl (fa26_5 _ _)) ?_
    simp only [Act.put, List.setIfInBounds_toArray, List.set_cons_zero, List.set_cons_succ]
    refine st_to (v := (.int .i64 t.sb)) (some 9) rfl rfl (ex_load (p := (.pointer (some ⟨b1, 37, none⟩))) rfl rfl (ld3 (at_cell k1 hT.c37))) ?_
    simp only [Act.put, List.setIfInBounds_toArray, List.set_cons_zero, List.set_cons_succ]
    refine st_new (fun b => .slice (some ⟨b, 0, none⟩) 2 2) (some 10) rfl rfl (ex_bsl2 (u := (.int .i64 t.sa)) (r := (.int .i64 t.sb)) rfl rfl rfl (bs82_2 _ _ _)) ?_
    intro b2 W2 k2 g2 B
    simp only [Act.put, List.setIfInBounds_toArray, List.set_cons_zero, List.set_cons_succ]
    have ne_b2_b1 : b2 ≠ b1 := fun e => by have := lt_of k1; omega
    have ge_b2 := Nat.le_trans E.size g2
    replace E := below_next E B
    replace k1 := keep B k1
    clear B
    refine st_call (some 11) rfl rfl (sum2_ok k2 c1) (ex_call (f := 34) (vs := [(.slice (some ⟨b2, 0, none⟩) 2 2)]) rfl (cf34 _) rfl) ?_
    rintro e W3 ⟨rfl, B⟩
    refine ⟨_, rfl, ?_⟩
    simp only [Act.put, List.setIfInBounds_toArray, List.set_cons_zero, List.set_cons_succ]
    replace E := below_next E B
    replace k1 := keep B k1
    replace k2 := keep B k2
    refine st_to (v := (.tuple #[(.int .i64 (t.sa + t.sb)), (.int .i64 0)])) (some 5) rfl rfl (ex_mv rfl rfl) ?_
    simp only [Act.put, List.setIfInBounds_toArray, List.set_cons_zero, List.set_cons_succ]
    refine st_to (v := (.int .i64 (t.sa + t.sb))) (some 12) rfl rfl (ex_ext rfl rfl rfl) ?_
    simp only [Act.put, List.setIfInBounds_toArray, List.set_cons_zero, List.set_cons_succ]
    refine st_to (v := (.int .i64 0)) (some 13) rfl rfl (ex_ext rfl rfl rfl) ?_
    simp only [Act.put, List.setIfInBounds_toArray, List.set_cons_zero, List.set_cons_succ]
    refine st_to (v := (.int .i64 (t.sa + t.sb))) (some 3) rfl rfl (ex_asg rfl rfl) ?_
    simp only [Act.put, List.setIfInBounds_toArray, List.set_cons_zero, List.set_cons_succ]
    refine st_to (v := (.int .i64 0)) (some 4) rfl rfl (ex_asg rfl rfl) ?_
    simp only [Act.put, List.setIfInBounds_toArray, List.set_cons_zero, List.set_cons_succ]
    refine st_end ?_
    subst hQ
    refine wp_seq ?_
    refine wl_in ?_
    refine wl_cap fun Q hQ => ?_
    refine st_to (v := (.int .i64 0)) (some 14) rfl rfl (ex_mv rfl rfl) ?_
    simp only [Act.put, List.setIfInBounds_toArray, List.set_cons_zero, List.set_cons_succ]
    refine st_to (v := (.bool true)) (some 15) rfl rfl (ex_bin (u := (.int .i64 0)) (r := (.int .i64 0)) rfl rfl rfl (eg35 _ _ _ _ _ _) (eql35 _ (by decide))) ?_
    simp only [Act.put, List.setIfInBounds_toArray, List.set_cons_zero, List.set_cons_succ]
    refine st_to (v := (.bool true)) (some 16) rfl rfl (ex_mv rfl rfl) ?_
    simp only [Act.put, List.setIfInBounds_toArray, List.set_cons_zero, List.set_cons_succ]
    refine st_to (v := (.pointer (some ⟨b1, 39, none⟩))) (some 17) rfl rfl (ex_fa (p := (.pointer (some ⟨b1, 0, none⟩))) rfl rfl (fa26_7 _ _)) ?_
    simp only [Act.put, List.setIfInBounds_toArray, List.set_cons_zero, List.set_cons_succ]
    refine st_to (v := (.int .i64 t.fee)) (some 18) rfl rfl (ex_load (p := (.pointer (some ⟨b1, 39, none⟩))) rfl rfl (ld3 (at_cell k1 hT.c39))) ?_
    simp only [Act.put, List.setIfInBounds_toArray, List.set_cons_zero, List.set_cons_succ]
    refine st_to (v := (.pointer (some ⟨b1, 40, none⟩))) (some 19) rfl rfl (ex_fa (p := (.pointer (some ⟨b1, 0, none⟩))) rfl rfl (fa26_8 _ _)) ?_
    simp only [Act.put, List.setIfInBounds_toArray, List.set_cons_zero, List.set_cons_succ]
    refine st_to (v := (.int .i64 t.res)) (some 20) rfl rfl (ex_load (p := (.pointer (some ⟨b1, 40, none⟩))) rfl rfl (ld3 (at_cell k1 hT.c40))) ?_
    simp only [Act.put, List.setIfInBounds_toArray, List.set_cons_zero, List.set_cons_succ]
    refine st_to (v := (.pointer (some ⟨b1, 42, none⟩))) (some 21) rfl rfl (ex_fa (p := (.pointer (some ⟨b1, 0, none⟩))) rfl rfl (fa26_10 _ _)) ?_
    simp only [Act.put, List.setIfInBounds_toArray, List.set_cons_zero, List.set_cons_succ]
    refine st_to (v := (.int .i64 t.fl)) (some 22) rfl rfl (ex_load (p := (.pointer (some ⟨b1, 42, none⟩))) rfl rfl (ld3 (at_cell k1 hT.c42))) ?_
    simp only [Act.put, List.setIfInBounds_toArray, List.set_cons_zero, List.set_cons_succ]
    refine st_new (fun b => .slice (some ⟨b, 0, none⟩) 3 3) (some 23) rfl rfl (ex_bsl3 (u := (.int .i64 t.fee)) (r := (.int .i64 t.res)) (s := (.int .i64 t.fl)) rfl rfl rfl rfl (bs82_3 _ _ _ _)) ?_
    intro b3 W4 k3 g3 B
    simp only [Act.put, List.setIfInBounds_toArray, List.set_cons_zero, List.set_cons_succ]
    have ne_b3_b1 : b3 ≠ b1 := fun e => by have := lt_of k1; omega
    have ne_b3_b2 : b3 ≠ b2 := fun e => by have := lt_of k2; omega
    have ge_b3 := Nat.le_trans E.size g3
    replace E := below_next E B
    replace k1 := keep B k1
    replace k2 := keep B k2
    clear B
    refine st_call (some 24) rfl rfl (areAm k3 hb.fee hb.res hb.fl (decide_eq_true c2)) (ex_call (f := 35) (vs := [(.slice (some ⟨b3, 0, none⟩) 3 3)]) rfl (cf35 _) rfl) ?_
    rintro e W5 ⟨rfl, B⟩
    refine ⟨_, rfl, ?_⟩
    simp only [Act.put, List.setIfInBounds_toArray, List.set_cons_zero, List.set_cons_succ]
    replace E := below_next E B
    replace k1 := keep B k1
    replace k2 := keep B k2
    replace k3 := keep B k3
    refine st_to (v := (.bool true)) (some 25) rfl rfl (ex_pkT rfl rfl rfl) ?_
    simp only [Act.put, List.setIfInBounds_toArray, List.set_cons_zero, List.set_cons_succ]
    refine st_to (v := (.bool true)) (some 26) rfl rfl (ex_mv rfl rfl) ?_
    simp only [Act.put, List.setIfInBounds_toArray, List.set_cons_zero, List.set_cons_succ]
    refine st_to (v := (.pointer (some ⟨b1, 0, none⟩))) (some 27) rfl rfl (ex_fa (p := (.pointer (some ⟨b1, 0, none⟩))) rfl rfl (fa26_0 _ _)) ?_
    simp only [Act.put, List.setIfInBounds_toArray, List.set_cons_zero, List.set_cons_succ]
    refine st_to (v := (.int .i64 t.ch)) (some 28) rfl rfl (ex_load (p := (.pointer (some ⟨b1, 0, none⟩))) rfl rfl (ld3 (at_cell k1 hT.c0))) ?_
    simp only [Act.put, List.setIfInBounds_toArray, List.set_cons_zero, List.set_cons_succ]
    refine st_to (v := (.bool true)) (some 29) rfl rfl (ex_bin (u := (.int .i64 t.ch)) (r := (.int .i64 1)) rfl rfl rfl (eg3 _ _ _ _ _ _) (geq3 _ (decide_eq_true c3))) ?_
    simp only [Act.put, List.setIfInBounds_toArray, List.set_cons_zero, List.set_cons_succ]
    refine st_to (v := (.bool true)) (some 30) rfl rfl (ex_pkT rfl rfl rfl) ?_
    simp only [Act.put, List.setIfInBounds_toArray, List.set_cons_zero, List.set_cons_succ]
    refine st_to (v := (.bool true)) (some 31) rfl rfl (ex_mv rfl rfl) ?_
    simp only [Act.put, List.setIfInBounds_toArray, List.set_cons_zero, List.set_cons_succ]
    refine st_to (v := (.pointer (some ⟨b1, 0, none⟩))) (some 32) rfl rfl (ex_fa (p := (.pointer (some ⟨b1, 0, none⟩))) rfl rfl (fa26_0 _ _)) ?_
    simp only [Act.put, List.setIfInBounds_toArray, List.set_cons_zero, List.set_cons_succ]
    refine st_to (v := (.int .i64 t.ch)) (some 33) rfl rfl (ex_load (p := (.pointer (some ⟨b1, 0, none⟩))) rfl rfl (ld3 (at_cell k1 hT.c0))) ?_
    simp only [Act.put, List.setIfInBounds_toArray, List.set_cons_zero, List.set_cons_succ]
    refine st_to (v := (.bool true)) (some 34) rfl rfl (ex_bin (u := (.int .i64 t.ch)) (r := (.int .i64 65535)) rfl rfl rfl (eg3 _ _ _ _ _ _) (leq3 _ (decide_eq_true c4))) ?_
    simp only [Act.put, List.setIfInBounds_toArray, List.set_cons_zero, List.set_cons_succ]
    refine st_to (v := (.bool true)) (some 35) rfl rfl (ex_pkT rfl rfl rfl) ?_
    simp only [Act.put, List.setIfInBounds_toArray, List.set_cons_zero, List.set_cons_succ]
    refine st_to (v := (.bool true)) (some 36) rfl rfl (ex_mv rfl rfl) ?_
    simp only [Act.put, List.setIfInBounds_toArray, List.set_cons_zero, List.set_cons_succ]
    refine st_to (v := (.pointer (some ⟨b1, 1, none⟩))) (some 37) rfl rfl (ex_fa (p := (.pointer (some ⟨b1, 0, none⟩))) rfl rfl (fa26_1 _ _)) ?_
    simp only [Act.put, List.setIfInBounds_toArray, List.set_cons_zero, List.set_cons_succ]
    refine st_to (v := (.int .i64 t.a)) (some 38) rfl rfl (ex_load (p := (.pointer (some ⟨b1, 1, none⟩))) rfl rfl (ld3 (at_cell k1 hT.c1))) ?_
    simp only [Act.put, List.setIfInBounds_toArray, List.set_cons_zero, List.set_cons_succ]
    refine st_to (v := (.bool true)) (some 39) rfl rfl (ex_bin (u := (.int .i64 t.a)) (r := (.int .i64 0)) rfl rfl rfl (eg3 _ _ _ _ _ _) (geq3 _ (decide_eq_true c5))) ?_
    simp only [Act.put, List.setIfInBounds_toArray, List.set_cons_zero, List.set_cons_succ]
    refine st_to (v := (.bool true)) (some 40) rfl rfl (ex_pkT rfl rfl rfl) ?_
    simp only [Act.put, List.setIfInBounds_toArray, List.set_cons_zero, List.set_cons_succ]
    refine st_to (v := (.bool true)) (some 41) rfl rfl (ex_mv rfl rfl) ?_
    simp only [Act.put, List.setIfInBounds_toArray, List.set_cons_zero, List.set_cons_succ]
    refine st_to (v := (.pointer (some ⟨b1, 1, none⟩))) (some 42) rfl rfl (ex_fa (p := (.pointer (some ⟨b1, 0, none⟩))) rfl rfl (fa26_1 _ _)) ?_
    simp only [Act.put, List.setIfInBounds_toArray, List.set_cons_zero, List.set_cons_succ]
    refine st_to (v := (.int .i64 t.a)) (some 43) rfl rfl (ex_load (p := (.pointer (some ⟨b1, 1, none⟩))) rfl rfl (ld3 (at_cell k1 hT.c1))) ?_
    simp only [Act.put, List.setIfInBounds_toArray, List.set_cons_zero, List.set_cons_succ]
    refine st_to (v := (.pointer (some ⟨b1, 2, none⟩))) (some 44) rfl rfl (ex_fa (p := (.pointer (some ⟨b1, 0, none⟩))) rfl rfl (fa26_2 _ _)) ?_
    simp only [Act.put, List.setIfInBounds_toArray, List.set_cons_zero, List.set_cons_succ]
    refine st_to (v := (.int .i64 t.b)) (some 45) rfl rfl (ex_load (p := (.pointer (some ⟨b1, 2, none⟩))) rfl rfl (ld3 (at_cell k1 hT.c2))) ?_
    simp only [Act.put, List.setIfInBounds_toArray, List.set_cons_zero, List.set_cons_succ]
    refine st_to (v := (.bool true)) (some 46) rfl rfl (ex_bin (u := (.int .i64 t.a)) (r := (.int .i64 t.b)) rfl rfl rfl (eg3 _ _ _ _ _ _) (lss3 _ (decide_eq_true c6))) ?_
    simp only [Act.put, List.setIfInBounds_toArray, List.set_cons_zero, List.set_cons_succ]
    refine st_to (v := (.bool true)) (some 47) rfl rfl (ex_pkT rfl rfl rfl) ?_
    simp only [Act.put, List.setIfInBounds_toArray, List.set_cons_zero, List.set_cons_succ]
    refine st_to (v := (.bool true)) (some 48) rfl rfl (ex_mv rfl rfl) ?_
    simp only [Act.put, List.setIfInBounds_toArray, List.set_cons_zero, List.set_cons_succ]
    refine st_to (v := (.pointer (some ⟨b1, 2, none⟩))) (some 49) rfl rfl (ex_fa (p := (.pointer (some ⟨b1, 0, none⟩))) rfl rfl (fa26_2 _ _)) ?_
    simp only [Act.put, List.setIfInBounds_toArray, List.set_cons_zero, List.set_cons_succ]
    refine st_to (v := (.int .i64 t.b)) (some 50) rfl rfl (ex_load (p := (.pointer (some ⟨b1, 2, none⟩))) rfl rfl (ld3 (at_cell k1 hT.c2))) ?_
    simp only [Act.put, List.setIfInBounds_toArray, List.set_cons_zero, List.set_cons_succ]
    refine st_to (v := (.bool true)) (some 51) rfl rfl (ex_bin (u := (.int .i64 t.b)) (r := (.int .i64 8)) rfl rfl rfl (eg3 _ _ _ _ _ _) (lss3 _ (decide_eq_true c7))) ?_
    simp only [Act.put, List.setIfInBounds_toArray, List.set_cons_zero, List.set_cons_succ]
    refine st_to (v := (.bool true)) (some 52) rfl rfl (ex_pkT rfl rfl rfl) ?_
    simp only [Act.put, List.setIfInBounds_toArray, List.set_cons_zero, List.set_cons_succ]
    refine st_to (v := (.bool true)) (some 53) rfl rfl (ex_mv rfl rfl) ?_
    simp only [Act.put, List.setIfInBounds_toArray, List.set_cons_zero, List.set_cons_succ]
    refine st_to (v := (.pointer (some ⟨b1, 3, none⟩))) (some 54) rfl rfl (ex_fa (p := (.pointer (some ⟨b1, 0, none⟩))) rfl rfl (fa26_3 _ _)) ?_
    simp only [Act.put, List.setIfInBounds_toArray, List.set_cons_zero, List.set_cons_succ]
    refine st_to (v := (.pointer (some ⟨b1, 35, none⟩))) (some 55) rfl rfl (ex_fa rfl rfl (faR _ 0 _)) ?_
    simp only [Act.put, List.setIfInBounds_toArray, List.set_cons_zero, List.set_cons_succ]
    refine st_to (v := (.int .i64 t.fo)) (some 56) rfl rfl (ex_load (p := (.pointer (some ⟨b1, 35, none⟩))) rfl rfl (ld3 (at_cell k1 hT.c35))) ?_
    simp only [Act.put, List.setIfInBounds_toArray, List.set_cons_zero, List.set_cons_succ]
    refine st_to (v := (.bool true)) (some 57) rfl rfl (ex_bin (u := (.int .i64 t.fo)) (r := (.int .i64 0)) rfl rfl rfl (eg3 _ _ _ _ _ _) (geq3 _ (decide_eq_true c8))) ?_
    simp only [Act.put, List.setIfInBounds_toArray, List.set_cons_zero, List.set_cons_succ]
    refine st_to (v := (.bool true)) (some 58) rfl rfl (ex_pkT rfl rfl rfl) ?_
    simp only [Act.put, List.setIfInBounds_toArray, List.set_cons_zero, List.set_cons_succ]
    refine st_to (v := (.bool true)) (some 59) rfl rfl (ex_mv rfl rfl) ?_
    simp only [Act.put, List.setIfInBounds_toArray, List.set_cons_zero, List.set_cons_succ]
    refine st_to (v := (.pointer (some ⟨b1, 38, none⟩))) (some 60) rfl rfl (ex_fa (p := (.pointer (some ⟨b1, 0, none⟩))) rfl rfl (fa26_6 _ _)) ?_
    simp only [Act.put, List.setIfInBounds_toArray, List.set_cons_zero, List.set_cons_succ]
    refine st_to (v := (.int .i64 t.d)) (some 61) rfl rfl (ex_load (p := (.pointer (some ⟨b1, 38, none⟩))) rfl rfl (ld3 (at_cell k1 hT.c38))) ?_
    simp only [Act.put, List.setIfInBounds_toArray, List.set_cons_zero, List.set_cons_succ]
    refine st_to (v := (.bool true)) (some 62) rfl rfl (ex_bin (u := (.int .i64 t.d)) (r := (.int .i64 1)) rfl rfl rfl (eg3 _ _ _ _ _ _) (geq3 _ (decide_eq_true c9))) ?_
    simp only [Act.put, List.setIfInBounds_toArray, List.set_cons_zero, List.set_cons_succ]
    refine st_to (v := (.bool true)) (some 63) rfl rfl (ex_pkT rfl rfl rfl) ?_
    simp only [Act.put, List.setIfInBounds_toArray, List.set_cons_zero, List.set_cons_succ]
    refine st_to (v := (.bool true)) (some 64) rfl rfl (ex_mv rfl rfl) ?_
    simp only [Act.put, List.setIfInBounds_toArray, List.set_cons_zero, List.set_cons_succ]
    refine st_to (v := (.pointer (some ⟨b1, 38, none⟩))) (some 65) rfl rfl (ex_fa (p := (.pointer (some ⟨b1, 0, none⟩))) rfl rfl (fa26_6 _ _)) ?_
    simp only [Act.put, List.setIfInBounds_toArray, List.set_cons_zero, List.set_cons_succ]
    refine st_to (v := (.int .i64 t.d)) (some 66) rfl rfl (ex_load (p := (.pointer (some ⟨b1, 38, none⟩))) rfl rfl (ld3 (at_cell k1 hT.c38))) ?_
    simp only [Act.put, List.setIfInBounds_toArray, List.set_cons_zero, List.set_cons_succ]
    refine st_to (v := (.bool false)) (some 67) rfl rfl (ex_bin (u := (.int .i64 t.d)) (r := (.int .i64 1000)) rfl rfl rfl (eg3 _ _ _ _ _ _) (leq3 _ (decide_eq_false c10))) ?_
    simp only [Act.put, List.setIfInBounds_toArray, List.set_cons_zero, List.set_cons_succ]
    refine st_to (v := (.bool false)) (some 68) rfl rfl (ex_pkT rfl rfl rfl) ?_
    simp only [Act.put, List.setIfInBounds_toArray, List.set_cons_zero, List.set_cons_succ]
    refine st_to (v := (.bool false)) (some 69) rfl rfl (ex_mv rfl rfl) ?_
    simp only [Act.put, List.setIfInBounds_toArray, List.set_cons_zero, List.set_cons_succ]
    refine st_no (some 70) rfl rfl ?_
    simp only [Act.put, List.setIfInBounds_toArray, List.set_cons_zero, List.set_cons_succ]
    refine st_no (some 71) rfl rfl ?_
    simp only [Act.put, List.setIfInBounds_toArray, List.set_cons_zero, List.set_cons_succ]
    refine st_no (some 72) rfl rfl ?_
    simp only [Act.put, List.setIfInBounds_toArray, List.set_cons_zero, List.set_cons_succ]
    refine st_to (v := (.bool false)) (some 73) rfl rfl (ex_pkF rfl rfl rfl) ?_
    simp only [Act.put, List.setIfInBounds_toArray, List.set_cons_zero, List.set_cons_succ]
    refine st_to (v := (.bool false)) (some 74) rfl rfl (ex_mv rfl rfl) ?_
    simp only [Act.put, List.setIfInBounds_toArray, List.set_cons_zero, List.set_cons_succ]
    refine st_no (some 75) rfl rfl ?_
    simp only [Act.put, List.setIfInBounds_toArray, List.set_cons_zero, List.set_cons_succ]
    refine st_no (some 76) rfl rfl ?_
    simp only [Act.put, List.setIfInBounds_toArray, List.set_cons_zero, List.set_cons_succ]
    refine st_no (some 77) rfl rfl ?_
    simp only [Act.put, List.setIfInBounds_toArray, List.set_cons_zero, List.set_cons_succ]
    refine st_to (v := (.bool false)) (some 78) rfl rfl (ex_pkF rfl rfl rfl) ?_
    simp only [Act.put, List.setIfInBounds_toArray, List.set_cons_zero, List.set_cons_succ]
    refine st_to (v := (.bool false)) (some 2) rfl rfl (ex_asg rfl rfl) ?_
    simp only [Act.put, List.setIfInBounds_toArray, List.set_cons_zero, List.set_cons_succ]
    refine st_end ?_
    subst hQ
    refine wp_ret ?_
    refine bodyPost_ret (results_tmp Try.results12 _ _ _) rfl ⟨?_, E⟩
    show Ending.returned (.bool false) = _
    rw [decide_eq_false (fun h => c10 h.2.2.2.2.2.2.2.2.2.1)]
  by_cases c11 : 1 ≤ t.sl
  rotate_left
  · skip
    have E : Below w.heap.size w w := Below.refl _ _
    go_enter Try.func12, Try.ntmps12
    refine wp_seq ?_
    refine wl_in ?_
    refine wl_cap fun Q hQ => ?_
    refine st_new (fun b => .pointer (some ⟨b, 0, none⟩)) (some 1) rfl rfl (ex_box rfl rfl) ?_
    intro b1 W1 k1 g1 B
    simp only [Act.put, List.setIfInBounds_toArray, List.set_cons_zero, List.set_cons_succ]
    have ge_b1 := Nat.le_trans E.size g1
    replace E := below_next E B
    clear B
    refine st_to (v := (.bool false)) (some 2) rfl rfl (ex_asg rfl rfl) ?_
    simp only [Act.put, List.setIfInBounds_toArray, List.set_cons_zero, List.set_cons_succ]
    refine st_end ?_
    subst hQ
    refine wp_seq ?_
    refine wl_in ?_
    refine wl_cap fun Q hQ => ?_
    refine st_to (v := (.pointer (some ⟨b1, 36, none⟩))) (some 6) rfl rfl (ex_fa (p := (.pointer (some ⟨b1, 0, none⟩))) rfl rfl (fa26_4 _ _)) ?_
    simp only [Act.put, List.setIfInBounds_toArray, List.set_cons_zero, List.set_cons_succ]
    refine st_to (v := (.int .i64 t.sa)) (some 7) rfl rfl (ex_load (p := (.pointer (some ⟨b1, 36, none⟩))) rfl rfl (ld3 (at_cell k1 hT.c36))) ?_
    simp only [Act.put, List.setIfInBounds_toArray, List.set_cons_zero, List.set_cons_succ]
    refine st_to (v := (.pointer (some ⟨b1, 37, none⟩))) (some 8) rfl rfl (ex_fa (p := (.pointer (some ⟨b1, 0, none⟩))) rfl rfl (fa26_5 _ _)) ?_
    simp only [Act.put, List.setIfInBounds_toArray, List.set_cons_zero, List.set_cons_succ]
    refine st_to (v := (.int .i64 t.sb)) (some 9) rfl rfl (ex_load (p := (.pointer (some ⟨b1, 37, none⟩))) rfl rfl (ld3 (at_cell k1 hT.c37))) ?_
    simp only [Act.put, List.setIfInBounds_toArray, List.set_cons_zero, List.set_cons_succ]
    refine st_new (fun b => .slice (some ⟨b, 0, none⟩) 2 2) (some 10) rfl rfl (ex_bsl2 (u := (.int .i64 t.sa)) (r := (.int .i64 t.sb)) rfl rfl rfl (bs82_2 _ _ _)) ?_
    intro b2 W2 k2 g2 B
    simp only [Act.put, List.setIfInBounds_toArray, List.set_cons_zero, List.set_cons_succ]
    have ne_b2_b1 : b2 ≠ b1 := fun e => by have := lt_of k1; omega
    have ge_b2 := Nat.le_trans E.size g2
    replace E := below_next E B
    replace k1 := keep B k1
    clear B
    refine st_call (some 11) rfl rfl (sum2_ok k2 c1) (ex_call (f := 34) (vs := [(.slice (some ⟨b2, 0, none⟩) 2 2)]) rfl (cf34 _) rfl) ?_
    rintro e W3 ⟨rfl, B⟩
    refine ⟨_, rfl, ?_⟩
    simp only [Act.put, List.setIfInBounds_toArray, List.set_cons_zero, List.set_cons_succ]
    replace E := below_next E B
    replace k1 := keep B k1
    replace k2 := keep B k2
    refine st_to (v := (.tuple #[(.int .i64 (t.sa + t.sb)), (.int .i64 0)])) (some 5) rfl rfl (ex_mv rfl rfl) ?_
    simp only [Act.put, List.setIfInBounds_toArray, List.set_cons_zero, List.set_cons_succ]
    refine st_to (v := (.int .i64 (t.sa + t.sb))) (some 12) rfl rfl (ex_ext rfl rfl rfl) ?_
    simp only [Act.put, List.setIfInBounds_toArray, List.set_cons_zero, List.set_cons_succ]
    refine st_to (v := (.int .i64 0)) (some 13) rfl rfl (ex_ext rfl rfl rfl) ?_
    simp only [Act.put, List.setIfInBounds_toArray, List.set_cons_zero, List.set_cons_succ]
    refine st_to (v := (.int .i64 (t.sa + t.sb))) (some 3) rfl rfl (ex_asg rfl rfl) ?_
    simp only [Act.put, List.setIfInBounds_toArray, List.set_cons_zero, List.set_cons_succ]
    refine st_to (v := (.int .i64 0)) (some 4) rfl rfl (ex_asg rfl rfl) ?_
    simp only [Act.put, List.setIfInBounds_toArray, List.set_cons_zero, List.set_cons_succ]
    refine st_end ?_
    subst hQ
    refine wp_seq ?_
    refine wl_in ?_
    refine wl_cap fun Q hQ => ?_
    refine st_to (v := (.int .i64 0)) (some 14) rfl rfl (ex_mv rfl rfl) ?_
    simp only [Act.put, List.setIfInBounds_toArray, List.set_cons_zero, List.set_cons_succ]
    refine st_to (v := (.bool true)) (some 15) rfl rfl (ex_bin (u := (.int .i64 0)) (r := (.int .i64 0)) rfl rfl rfl (eg35 _ _ _ _ _ _) (eql35 _ (by decide))) ?_
    simp only [Act.put, List.setIfInBounds_toArray, List.set_cons_zero, List.set_cons_succ]
    refine st_to (v := (.bool true)) (some 16) rfl rfl (ex_mv rfl rfl) ?_
    simp only [Act.put, List.setIfInBounds_toArray, List.set_cons_zero, List.set_cons_succ]
    refine st_to (v := (.pointer (some ⟨b1, 39, none⟩))) (some 17) rfl rfl (ex_fa (p := (.pointer (some ⟨b1, 0, none⟩))) rfl rfl (fa26_7 _ _)) ?_
    simp only [Act.put, List.setIfInBounds_toArray, List.set_cons_zero, List.set_cons_succ]
    refine st_to (v := (.int .i64 t.fee)) (some 18) rfl rfl (ex_load (p := (.pointer (some ⟨b1, 39, none⟩))) rfl rfl (ld3 (at_cell k1 hT.c39))) ?_
    simp only [Act.put, List.setIfInBounds_toArray, List.set_cons_zero, List.set_cons_succ]
    refine st_to (v := (.pointer (some ⟨b1, 40, none⟩))) (some 19) rfl rfl (ex_fa (p := (.pointer (some ⟨b1, 0, none⟩))) rfl rfl (fa26_8 _ _)) ?_
    simp only [Act.put, List.setIfInBounds_toArray, List.set_cons_zero, List.set_cons_succ]
    refine st_to (v := (.int .i64 t.res)) (some 20) rfl rfl (ex_load (p := (.pointer (some ⟨b1, 40, none⟩))) rfl rfl (ld3 (at_cell k1 hT.c40))) ?_
    simp only [Act.put, List.setIfInBounds_toArray, List.set_cons_zero, List.set_cons_succ]
    refine st_to (v := (.pointer (some ⟨b1, 42, none⟩))) (some 21) rfl rfl (ex_fa (p := (.pointer (some ⟨b1, 0, none⟩))) rfl rfl (fa26_10 _ _)) ?_
    simp only [Act.put, List.setIfInBounds_toArray, List.set_cons_zero, List.set_cons_succ]
    refine st_to (v := (.int .i64 t.fl)) (some 22) rfl rfl (ex_load (p := (.pointer (some ⟨b1, 42, none⟩))) rfl rfl (ld3 (at_cell k1 hT.c42))) ?_
    simp only [Act.put, List.setIfInBounds_toArray, List.set_cons_zero, List.set_cons_succ]
    refine st_new (fun b => .slice (some ⟨b, 0, none⟩) 3 3) (some 23) rfl rfl (ex_bsl3 (u := (.int .i64 t.fee)) (r := (.int .i64 t.res)) (s := (.int .i64 t.fl)) rfl rfl rfl rfl (bs82_3 _ _ _ _)) ?_
    intro b3 W4 k3 g3 B
    simp only [Act.put, List.setIfInBounds_toArray, List.set_cons_zero, List.set_cons_succ]
    have ne_b3_b1 : b3 ≠ b1 := fun e => by have := lt_of k1; omega
    have ne_b3_b2 : b3 ≠ b2 := fun e => by have := lt_of k2; omega
    have ge_b3 := Nat.le_trans E.size g3
    replace E := below_next E B
    replace k1 := keep B k1
    replace k2 := keep B k2
    clear B
    refine st_call (some 24) rfl rfl (areAm k3 hb.fee hb.res hb.fl (decide_eq_true c2)) (ex_call (f := 35) (vs := [(.slice (some ⟨b3, 0, none⟩) 3 3)]) rfl (cf35 _) rfl) ?_
    rintro e W5 ⟨rfl, B⟩
    refine ⟨_, rfl, ?_⟩
    simp only [Act.put, List.setIfInBounds_toArray, List.set_cons_zero, List.set_cons_succ]
    replace E := below_next E B
    replace k1 := keep B k1
    replace k2 := keep B k2
    replace k3 := keep B k3
    refine st_to (v := (.bool true)) (some 25) rfl rfl (ex_pkT rfl rfl rfl) ?_
    simp only [Act.put, List.setIfInBounds_toArray, List.set_cons_zero, List.set_cons_succ]
    refine st_to (v := (.bool true)) (some 26) rfl rfl (ex_mv rfl rfl) ?_
    simp only [Act.put, List.setIfInBounds_toArray, List.set_cons_zero, List.set_cons_succ]
    refine st_to (v := (.pointer (some ⟨b1, 0, none⟩))) (some 27) rfl rfl (ex_fa (p := (.pointer (some ⟨b1, 0, none⟩))) rfl rfl (fa26_0 _ _)) ?_
    simp only [Act.put, List.setIfInBounds_toArray, List.set_cons_zero, List.set_cons_succ]
    refine st_to (v := (.int .i64 t.ch)) (some 28) rfl rfl (ex_load (p := (.pointer (some ⟨b1, 0, none⟩))) rfl rfl (ld3 (at_cell k1 hT.c0))) ?_
    simp only [Act.put, List.setIfInBounds_toArray, List.set_cons_zero, List.set_cons_succ]
    refine st_to (v := (.bool true)) (some 29) rfl rfl (ex_bin (u := (.int .i64 t.ch)) (r := (.int .i64 1)) rfl rfl rfl (eg3 _ _ _ _ _ _) (geq3 _ (decide_eq_true c3))) ?_
    simp only [Act.put, List.setIfInBounds_toArray, List.set_cons_zero, List.set_cons_succ]
    refine st_to (v := (.bool true)) (some 30) rfl rfl (ex_pkT rfl rfl rfl) ?_
    simp only [Act.put, List.setIfInBounds_toArray, List.set_cons_zero, List.set_cons_succ]
    refine st_to (v := (.bool true)) (some 31) rfl rfl (ex_mv rfl rfl) ?_
    simp only [Act.put, List.setIfInBounds_toArray, List.set_cons_zero, List.set_cons_succ]
    refine st_to (v := (.pointer (some ⟨b1, 0, none⟩))) (some 32) rfl rfl (ex_fa (p := (.pointer (some ⟨b1, 0, none⟩))) rfl rfl (fa26_0 _ _)) ?_
    simp only [Act.put, List.setIfInBounds_toArray, List.set_cons_zero, List.set_cons_succ]
    refine st_to (v := (.int .i64 t.ch)) (some 33) rfl rfl (ex_load (p := (.pointer (some ⟨b1, 0, none⟩))) rfl rfl (ld3 (at_cell k1 hT.c0))) ?_
    simp only [Act.put, List.setIfInBounds_toArray, List.set_cons_zero, List.set_cons_succ]
    refine st_to (v := (.bool true)) (some 34) rfl rfl (ex_bin (u := (.int .i64 t.ch)) (r := (.int .i64 65535)) rfl rfl rfl (eg3 _ _ _ _ _ _) (leq3 _ (decide_eq_true c4))) ?_
    simp only [Act.put, List.setIfInBounds_toArray, List.set_cons_zero, List.set_cons_succ]
    refine st_to (v := (.bool true)) (some 35) rfl rfl (ex_pkT rfl rfl rfl) ?_
    simp only [Act.put, List.setIfInBounds_toArray, List.set_cons_zero, List.set_cons_succ]
    refine st_to (v := (.bool true)) (some 36) rfl rfl (ex_mv rfl rfl) ?_
    simp only [Act.put, List.setIfInBounds_toArray, List.set_cons_zero, List.set_cons_succ]
    refine st_to (v := (.pointer (some ⟨b1, 1, none⟩))) (some 37) rfl rfl (ex_fa (p := (.pointer (some ⟨b1, 0, none⟩))) rfl rfl (fa26_1 _ _)) ?_
    simp only [Act.put, List.setIfInBounds_toArray, List.set_cons_zero, List.set_cons_succ]
    refine st_to (v := (.int .i64 t.a)) (some 38) rfl rfl (ex_load (p := (.pointer (some ⟨b1, 1, none⟩))) rfl rfl (ld3 (at_cell k1 hT.c1))) ?_
    simp only [Act.put, List.setIfInBounds_toArray, List.set_cons_zero, List.set_cons_succ]
    refine st_to (v := (.bool true)) (some 39) rfl rfl (ex_bin (u := (.int .i64 t.a)) (r := (.int .i64 0)) rfl rfl rfl (eg3 _ _ _ _ _ _) (geq3 _ (decide_eq_true c5))) ?_
    simp only [Act.put, List.setIfInBounds_toArray, List.set_cons_zero, List.set_cons_succ]
    refine st_to (v := (.bool true)) (some 40) rfl rfl (ex_pkT rfl rfl rfl) ?_
    simp only [Act.put, List.setIfInBounds_toArray, List.set_cons_zero, List.set_cons_succ]
    refine st_to (v := (.bool true)) (some 41) rfl rfl (ex_mv rfl rfl) ?_
    simp only [Act.put, List.setIfInBounds_toArray, List.set_cons_zero, List.set_cons_succ]
    refine st_to (v := (.pointer (some ⟨b1, 1, none⟩))) (some 42) rfl rfl (ex_fa (p := (.pointer (some ⟨b1, 0, none⟩))) rfl rfl (fa26_1 _ _)) ?_
    simp only [Act.put, List.setIfInBounds_toArray, List.set_cons_zero, List.set_cons_succ]
    refine st_to (v := (.int .i64 t.a)) (some 43) rfl rfl (ex_load (p := (.pointer (some ⟨b1, 1, none⟩))) rfl rfl (ld3 (at_cell k1 hT.c1))) ?_
    simp only [Act.put, List.setIfInBounds_toArray, List.set_cons_zero, List.set_cons_succ]
    refine st_to (v := (.pointer (some ⟨b1, 2, none⟩))) (some 44) rfl rfl (ex_fa (p := (.pointer (some ⟨b1, 0, none⟩))) rfl rfl (fa26_2 _ _)) ?_
    simp only [Act.put, List.setIfInBounds_toArray, List.set_cons_zero, List.set_cons_succ]
    refine st_to (v := (.int .i64 t.b)) (some 45) rfl rfl (ex_load (p := (.pointer (some ⟨b1, 2, none⟩))) rfl rfl (ld3 (at_cell k1 hT.c2))) ?_
    simp only [Act.put, List.setIfInBounds_toArray, List.set_cons_zero, List.set_cons_succ]
    refine st_to (v := (.bool true)) (some 46) rfl rfl (ex_bin (u := (.int .i64 t.a)) (r := (.int .i64 t.b)) rfl rfl rfl (eg3 _ _ _ _ _ _) (lss3 _ (decide_eq_true c6))) ?_
    simp only [Act.put, List.setIfInBounds_toArray, List.set_cons_zero, List.set_cons_succ]
    refine st_to (v := (.bool true)) (some 47) rfl rfl (ex_pkT rfl rfl rfl) ?_
    simp only [Act.put, List.setIfInBounds_toArray, List.set_cons_zero, List.set_cons_succ]
    refine st_to (v := (.bool true)) (some 48) rfl rfl (ex_mv rfl rfl) ?_
    simp only [Act.put, List.setIfInBounds_toArray, List.set_cons_zero, List.set_cons_succ]
    refine st_to (v := (.pointer (some ⟨b1, 2, none⟩))) (some 49) rfl rfl (ex_fa (p := (.pointer (some ⟨b1, 0, none⟩))) rfl rfl (fa26_2 _ _)) ?_
    simp only [Act.put, List.setIfInBounds_toArray, List.set_cons_zero, List.set_cons_succ]
    refine st_to (v := (.int .i64 t.b)) (some 50) rfl rfl (ex_load (p := (.pointer (some ⟨b1, 2, none⟩))) rfl rfl (ld3 (at_cell k1 hT.c2))) ?_
    simp only [Act.put, List.setIfInBounds_toArray, List.set_cons_zero, List.set_cons_succ]
    refine st_to (v := (.bool true)) (some 51) rfl rfl (ex_bin (u := (.int .i64 t.b)) (r := (.int .i64 8)) rfl rfl rfl (eg3 _ _ _ _ _ _) (lss3 _ (decide_eq_true c7))) ?_
    simp only [Act.put, List.setIfInBounds_toArray, List.set_cons_zero, List.set_cons_succ]
    refine st_to (v := (.bool true)) (some 52) rfl rfl (ex_pkT rfl rfl rfl) ?_
    simp only [Act.put, List.setIfInBounds_toArray, List.set_cons_zero, List.set_cons_succ]
    refine st_to (v := (.bool true)) (some 53) rfl rfl (ex_mv rfl rfl) ?_
    simp only [Act.put, List.setIfInBounds_toArray, List.set_cons_zero, List.set_cons_succ]
    refine st_to (v := (.pointer (some ⟨b1, 3, none⟩))) (some 54) rfl rfl (ex_fa (p := (.pointer (some ⟨b1, 0, none⟩))) rfl rfl (fa26_3 _ _)) ?_
    simp only [Act.put, List.setIfInBounds_toArray, List.set_cons_zero, List.set_cons_succ]
    refine st_to (v := (.pointer (some ⟨b1, 35, none⟩))) (some 55) rfl rfl (ex_fa rfl rfl (faR _ 0 _)) ?_
    simp only [Act.put, List.setIfInBounds_toArray, List.set_cons_zero, List.set_cons_succ]
    refine st_to (v := (.int .i64 t.fo)) (some 56) rfl rfl (ex_load (p := (.pointer (some ⟨b1, 35, none⟩))) rfl rfl (ld3 (at_cell k1 hT.c35))) ?_
    simp only [Act.put, List.setIfInBounds_toArray, List.set_cons_zero, List.set_cons_succ]
    refine st_to (v := (.bool true)) (some 57) rfl rfl (ex_bin (u := (.int .i64 t.fo)) (r := (.int .i64 0)) rfl rfl rfl (eg3 _ _ _ _ _ _) (geq3 _ (decide_eq_true c8))) ?_
    simp only [Act.put, List.setIfInBounds_toArray, List.set_cons_zero, List.set_cons_succ]
    refine st_to (v := (.bool true)) (some 58) rfl rfl (ex_pkT rfl rfl rfl) ?_
    simp only [Act.put, List.setIfInBounds_toArray, List.set_cons_zero, List.set_cons_succ]
    refine st_to (v := (.bool true)) (some 59) rfl rfl (ex_mv rfl rfl) ?_
    simp only [Act.put, List.setIfInBounds_toArray, List.set_cons_zero, List.set_cons_succ]
    refine st_to (v := (.pointer (some ⟨b1, 38, none⟩))) (some 60) rfl rfl (ex_fa (p := (.pointer (some ⟨b1, 0, none⟩))) rfl rfl (fa26_6 _ _)) ?_
    simp only [Act.put, List.setIfInBounds_toArray, List.set_cons_zero, List.set_cons_succ]
    refine st_to (v := (.int .i64 t.d)) (some 61) rfl rfl (ex_load (p := (.pointer (some ⟨b1, 38, none⟩))) rfl rfl (ld3 (at_cell k1 hT.c38))) ?_
    simp only [Act.put, List.setIfInBounds_toArray, List.set_cons_zero, List.set_cons_succ]
    refine st_to (v := (.bool true)) (some 62) rfl rfl (ex_bin (u := (.int .i64 t.d)) (r := (.int .i64 1)) rfl rfl rfl (eg3 _ _ _ _ _ _) (geq3 _ (decide_eq_true c9))) ?_
    simp only [Act.put, List.setIfInBounds_toArray, List.set_cons_zero, List.set_cons_succ]
    refine st_to (v := (.bool true)) (some 63) rfl rfl (ex_pkT rfl rfl rfl) ?_
    simp only [Act.put, List.setIfInBounds_toArray, List.set_cons_zero, List.set_cons_succ]
    refine st_to (v := (.bool true)) (some 64) rfl rfl (ex_mv rfl rfl) ?_
    simp only [Act.put, List.setIfInBounds_toArray, List.set_cons_zero, List.set_cons_succ]
    refine st_to (v := (.pointer (some ⟨b1, 38, none⟩))) (some 65) rfl rfl (ex_fa (p := (.pointer (some ⟨b1, 0, none⟩))) rfl rfl (fa26_6 _ _)) ?_
    simp only [Act.put, List.setIfInBounds_toArray, List.set_cons_zero, List.set_cons_succ]
    refine st_to (v := (.int .i64 t.d)) (some 66) rfl rfl (ex_load (p := (.pointer (some ⟨b1, 38, none⟩))) rfl rfl (ld3 (at_cell k1 hT.c38))) ?_
    simp only [Act.put, List.setIfInBounds_toArray, List.set_cons_zero, List.set_cons_succ]
    refine st_to (v := (.bool true)) (some 67) rfl rfl (ex_bin (u := (.int .i64 t.d)) (r := (.int .i64 1000)) rfl rfl rfl (eg3 _ _ _ _ _ _) (leq3 _ (decide_eq_true c10))) ?_
    simp only [Act.put, List.setIfInBounds_toArray, List.set_cons_zero, List.set_cons_succ]
    refine st_to (v := (.bool true)) (some 68) rfl rfl (ex_pkT rfl rfl rfl) ?_
    simp only [Act.put, List.setIfInBounds_toArray, List.set_cons_zero, List.set_cons_succ]
    refine st_to (v := (.bool true)) (some 69) rfl rfl (ex_mv rfl rfl) ?_
    simp only [Act.put, List.setIfInBounds_toArray, List.set_cons_zero, List.set_cons_succ]
    refine st_to (v := (.pointer (some ⟨b1, 41, none⟩))) (some 70) rfl rfl (ex_fa (p := (.pointer (some ⟨b1, 0, none⟩))) rfl rfl (fa26_9 _ _)) ?_
    simp only [Act.put, List.setIfInBounds_toArray, List.set_cons_zero, List.set_cons_succ]
    refine st_to (v := (.int .i64 t.sl)) (some 71) rfl rfl (ex_load (p := (.pointer (some ⟨b1, 41, none⟩))) rfl rfl (ld3 (at_cell k1 hT.c41))) ?_
    simp only [Act.put, List.setIfInBounds_toArray, List.set_cons_zero, List.set_cons_succ]
    refine st_to (v := (.bool false)) (some 72) rfl rfl (ex_bin (u := (.int .i64 t.sl)) (r := (.int .i64 1)) rfl rfl rfl (eg3 _ _ _ _ _ _) (geq3 _ (decide_eq_false c11))) ?_
    simp only [Act.put, List.setIfInBounds_toArray, List.set_cons_zero, List.set_cons_succ]
    refine st_to (v := (.bool false)) (some 73) rfl rfl (ex_pkT rfl rfl rfl) ?_
    simp only [Act.put, List.setIfInBounds_toArray, List.set_cons_zero, List.set_cons_succ]
    refine st_to (v := (.bool false)) (some 74) rfl rfl (ex_mv rfl rfl) ?_
    simp only [Act.put, List.setIfInBounds_toArray, List.set_cons_zero, List.set_cons_succ]
    refine st_no (some 75) rfl rfl ?_
    simp only [Act.put, List.setIfInBounds_toArray, List.set_cons_zero, List.set_cons_succ]
    refine st_no (some 76) rfl rfl ?_
    simp only [Act.put, List.setIfInBounds_toArray, List.set_cons_zero, List.set_cons_succ]
    refine st_no (some 77) rfl rfl ?_
    simp only [Act.put, List.setIfInBounds_toArray, List.set_cons_zero, List.set_cons_succ]
    refine st_to (v := (.bool false)) (some 78) rfl rfl (ex_pkF rfl rfl rfl) ?_
    simp only [Act.put, List.setIfInBounds_toArray, List.set_cons_zero, List.set_cons_succ]
    refine st_to (v := (.bool false)) (some 2) rfl rfl (ex_asg rfl rfl) ?_
    simp only [Act.put, List.setIfInBounds_toArray, List.set_cons_zero, List.set_cons_succ]
    refine st_end ?_
    subst hQ
    refine wp_ret ?_
    refine bodyPost_ret (results_tmp Try.results12 _ _ _) rfl ⟨?_, E⟩
    show Ending.returned (.bool false) = _
    rw [decide_eq_false (fun h => c11 h.2.2.2.2.2.2.2.2.2.2.1)]
  by_cases c12 : t.sl ≤ 16
  rotate_left
  · skip
    have E : Below w.heap.size w w := Below.refl _ _
    go_enter Try.func12, Try.ntmps12
    refine wp_seq ?_
    refine wl_in ?_
    refine wl_cap fun Q hQ => ?_
    refine st_new (fun b => .pointer (some ⟨b, 0, none⟩)) (some 1) rfl rfl (ex_box rfl rfl) ?_
    intro b1 W1 k1 g1 B
    simp only [Act.put, List.setIfInBounds_toArray, List.set_cons_zero, List.set_cons_succ]
    have ge_b1 := Nat.le_trans E.size g1
    replace E := below_next E B
    clear B
    refine st_to (v := (.bool false)) (some 2) rfl rfl (ex_asg rfl rfl) ?_
    simp only [Act.put, List.setIfInBounds_toArray, List.set_cons_zero, List.set_cons_succ]
    refine st_end ?_
    subst hQ
    refine wp_seq ?_
    refine wl_in ?_
    refine wl_cap fun Q hQ => ?_
    refine st_to (v := (.pointer (some ⟨b1, 36, none⟩))) (some 6) rfl rfl (ex_fa (p := (.pointer (some ⟨b1, 0, none⟩))) rfl rfl (fa26_4 _ _)) ?_
    simp only [Act.put, List.setIfInBounds_toArray, List.set_cons_zero, List.set_cons_succ]
    refine st_to (v := (.int .i64 t.sa)) (some 7) rfl rfl (ex_load (p := (.pointer (some ⟨b1, 36, none⟩))) rfl rfl (ld3 (at_cell k1 hT.c36))) ?_
    simp only [Act.put, List.setIfInBounds_toArray, List.set_cons_zero, List.set_cons_succ]
    refine st_to (v := (.pointer (some ⟨b1, 37, none⟩))) (some 8) rfl rfl (ex_fa (p := (.pointer (some ⟨b1, 0, none⟩))) rfl rfl (fa26_5 _ _)) ?_
    simp only [Act.put, List.setIfInBounds_toArray, List.set_cons_zero, List.set_cons_succ]
    refine st_to (v := (.int .i64 t.sb)) (some 9) rfl rfl (ex_load (p := (.pointer (some ⟨b1, 37, none⟩))) rfl rfl (ld3 (at_cell k1 hT.c37))) ?_
    simp only [Act.put, List.setIfInBounds_toArray, List.set_cons_zero, List.set_cons_succ]
    refine st_new (fun b => .slice (some ⟨b, 0, none⟩) 2 2) (some 10) rfl rfl (ex_bsl2 (u := (.int .i64 t.sa)) (r := (.int .i64 t.sb)) rfl rfl rfl (bs82_2 _ _ _)) ?_
    intro b2 W2 k2 g2 B
    simp only [Act.put, List.setIfInBounds_toArray, List.set_cons_zero, List.set_cons_succ]
    have ne_b2_b1 : b2 ≠ b1 := fun e => by have := lt_of k1; omega
    have ge_b2 := Nat.le_trans E.size g2
    replace E := below_next E B
    replace k1 := keep B k1
    clear B
    refine st_call (some 11) rfl rfl (sum2_ok k2 c1) (ex_call (f := 34) (vs := [(.slice (some ⟨b2, 0, none⟩) 2 2)]) rfl (cf34 _) rfl) ?_
    rintro e W3 ⟨rfl, B⟩
    refine ⟨_, rfl, ?_⟩
    simp only [Act.put, List.setIfInBounds_toArray, List.set_cons_zero, List.set_cons_succ]
    replace E := below_next E B
    replace k1 := keep B k1
    replace k2 := keep B k2
    refine st_to (v := (.tuple #[(.int .i64 (t.sa + t.sb)), (.int .i64 0)])) (some 5) rfl rfl (ex_mv rfl rfl) ?_
    simp only [Act.put, List.setIfInBounds_toArray, List.set_cons_zero, List.set_cons_succ]
    refine st_to (v := (.int .i64 (t.sa + t.sb))) (some 12) rfl rfl (ex_ext rfl rfl rfl) ?_
    simp only [Act.put, List.setIfInBounds_toArray, List.set_cons_zero, List.set_cons_succ]
    refine st_to (v := (.int .i64 0)) (some 13) rfl rfl (ex_ext rfl rfl rfl) ?_
    simp only [Act.put, List.setIfInBounds_toArray, List.set_cons_zero, List.set_cons_succ]
    refine st_to (v := (.int .i64 (t.sa + t.sb))) (some 3) rfl rfl (ex_asg rfl rfl) ?_
    simp only [Act.put, List.setIfInBounds_toArray, List.set_cons_zero, List.set_cons_succ]
    refine st_to (v := (.int .i64 0)) (some 4) rfl rfl (ex_asg rfl rfl) ?_
    simp only [Act.put, List.setIfInBounds_toArray, List.set_cons_zero, List.set_cons_succ]
    refine st_end ?_
    subst hQ
    refine wp_seq ?_
    refine wl_in ?_
    refine wl_cap fun Q hQ => ?_
    refine st_to (v := (.int .i64 0)) (some 14) rfl rfl (ex_mv rfl rfl) ?_
    simp only [Act.put, List.setIfInBounds_toArray, List.set_cons_zero, List.set_cons_succ]
    refine st_to (v := (.bool true)) (some 15) rfl rfl (ex_bin (u := (.int .i64 0)) (r := (.int .i64 0)) rfl rfl rfl (eg35 _ _ _ _ _ _) (eql35 _ (by decide))) ?_
    simp only [Act.put, List.setIfInBounds_toArray, List.set_cons_zero, List.set_cons_succ]
    refine st_to (v := (.bool true)) (some 16) rfl rfl (ex_mv rfl rfl) ?_
    simp only [Act.put, List.setIfInBounds_toArray, List.set_cons_zero, List.set_cons_succ]
    refine st_to (v := (.pointer (some ⟨b1, 39, none⟩))) (some 17) rfl rfl (ex_fa (p := (.pointer (some ⟨b1, 0, none⟩))) rfl rfl (fa26_7 _ _)) ?_
    simp only [Act.put, List.setIfInBounds_toArray, List.set_cons_zero, List.set_cons_succ]
    refine st_to (v := (.int .i64 t.fee)) (some 18) rfl rfl (ex_load (p := (.pointer (some ⟨b1, 39, none⟩))) rfl rfl (ld3 (at_cell k1 hT.c39))) ?_
    simp only [Act.put, List.setIfInBounds_toArray, List.set_cons_zero, List.set_cons_succ]
    refine st_to (v := (.pointer (some ⟨b1, 40, none⟩))) (some 19) rfl rfl (ex_fa (p := (.pointer (some ⟨b1, 0, none⟩))) rfl rfl (fa26_8 _ _)) ?_
    simp only [Act.put, List.setIfInBounds_toArray, List.set_cons_zero, List.set_cons_succ]
    refine st_to (v := (.int .i64 t.res)) (some 20) rfl rfl (ex_load (p := (.pointer (some ⟨b1, 40, none⟩))) rfl rfl (ld3 (at_cell k1 hT.c40))) ?_
    simp only [Act.put, List.setIfInBounds_toArray, List.set_cons_zero, List.set_cons_succ]
    refine st_to (v := (.pointer (some ⟨b1, 42, none⟩))) (some 21) rfl rfl (ex_fa (p := (.pointer (some ⟨b1, 0, none⟩))) rfl rfl (fa26_10 _ _)) ?_
    simp only [Act.put, List.setIfInBounds_toArray, List.set_cons_zero, List.set_cons_succ]
    refine st_to (v := (.int .i64 t.fl)) (some 22) rfl rfl (ex_load (p := (.pointer (some ⟨b1, 42, none⟩))) rfl rfl (ld3 (at_cell k1 hT.c42))) ?_
    simp only [Act.put, List.setIfInBounds_toArray, List.set_cons_zero, List.set_cons_succ]
    refine st_new (fun b => .slice (some ⟨b, 0, none⟩) 3 3) (some 23) rfl rfl (ex_bsl3 (u := (.int .i64 t.fee)) (r := (.int .i64 t.res)) (s := (.int .i64 t.fl)) rfl rfl rfl rfl (bs82_3 _ _ _ _)) ?_
    intro b3 W4 k3 g3 B
    simp only [Act.put, List.setIfInBounds_toArray, List.set_cons_zero, List.set_cons_succ]
    have ne_b3_b1 : b3 ≠ b1 := fun e => by have := lt_of k1; omega
    have ne_b3_b2 : b3 ≠ b2 := fun e => by have := lt_of k2; omega
    have ge_b3 := Nat.le_trans E.size g3
    replace E := below_next E B
    replace k1 := keep B k1
    replace k2 := keep B k2
    clear B
    refine st_call (some 24) rfl rfl (areAm k3 hb.fee hb.res hb.fl (decide_eq_true c2)) (ex_call (f := 35) (vs := [(.slice (some ⟨b3, 0, none⟩) 3 3)]) rfl (cf35 _) rfl) ?_
    rintro e W5 ⟨rfl, B⟩
    refine ⟨_, rfl, ?_⟩
    simp only [Act.put, List.setIfInBounds_toArray, List.set_cons_zero, List.set_cons_succ]
    replace E := below_next E B
    replace k1 := keep B k1
    replace k2 := keep B k2
    replace k3 := keep B k3
    refine st_to (v := (.bool true)) (some 25) rfl rfl (ex_pkT rfl rfl rfl) ?_
    simp only [Act.put, List.setIfInBounds_toArray, List.set_cons_zero, List.set_cons_succ]
    refine st_to (v := (.bool true)) (some 26) rfl rfl (ex_mv rfl rfl) ?_
    simp only [Act.put, List.setIfInBounds_toArray, List.set_cons_zero, List.set_cons_succ]
    refine st_to (v := (.pointer (some ⟨b1, 0, none⟩))) (some 27) rfl rfl (ex_fa (p := (.pointer (some ⟨b1, 0, none⟩))) rfl rfl (fa26_0 _ _)) ?_
    simp only [Act.put, List.setIfInBounds_toArray, List.set_cons_zero, List.set_cons_succ]
    refine st_to (v := (.int .i64 t.ch)) (some 28) rfl rfl (ex_load (p := (.pointer (some ⟨b1, 0, none⟩))) rfl rfl (ld3 (at_cell k1 hT.c0))) ?_
    simp only [Act.put, List.setIfInBounds_toArray, List.set_cons_zero, List.set_cons_succ]
    refine st_to (v := (.bool true)) (some 29) rfl rfl (ex_bin (u := (.int .i64 t.ch)) (r := (.int .i64 1)) rfl rfl rfl (eg3 _ _ _ _ _ _) (geq3 _ (decide_eq_true c3))) ?_
    simp only [Act.put, List.setIfInBounds_toArray, List.set_cons_zero, List.set_cons_succ]
    refine st_to (v := (.bool true)) (some 30) rfl rfl (ex_pkT rfl rfl rfl) ?_
    simp only [Act.put, List.setIfInBounds_toArray, List.set_cons_zero, List.set_cons_succ]
    refine st_to (v := (.bool true)) (some 31) rfl rfl (ex_mv rfl rfl) ?_
    simp only [Act.put, List.setIfInBounds_toArray, List.set_cons_zero, List.set_cons_succ]
    refine st_to (v := (.pointer (some ⟨b1, 0, none⟩))) (some 32) rfl rfl (ex_fa (p := (.pointer (some ⟨b1, 0, none⟩))) rfl rfl (fa26_0 _ _)) ?_
    simp only [Act.put, List.setIfInBounds_toArray, List.set_cons_zero, List.set_cons_succ]
    refine st_to (v := (.int .i64 t.ch)) (some 33) rfl rfl (ex_load (p := (.pointer (some ⟨b1, 0, none⟩))) rfl rfl (ld3 (at_cell k1 hT.c0))) ?_
    simp only [Act.put, List.setIfInBounds_toArray, List.set_cons_zero, List.set_cons_succ]
    refine st_to (v := (.bool true)) (some 34) rfl rfl (ex_bin (u := (.int .i64 t.ch)) (r := (.int .i64 65535)) rfl rfl rfl (eg3 _ _ _ _ _ _) (leq3 _ (decide_eq_true c4))) ?_
    simp only [Act.put, List.setIfInBounds_toArray, List.set_cons_zero, List.set_cons_succ]
    refine st_to (v := (.bool true)) (some 35) rfl rfl (ex_pkT rfl rfl rfl) ?_
    simp only [Act.put, List.setIfInBounds_toArray, List.set_cons_zero, List.set_cons_succ]
    refine st_to (v := (.bool true)) (some 36) rfl rfl (ex_mv rfl rfl) ?_
    simp only [Act.put, List.setIfInBounds_toArray, List.set_cons_zero, List.set_cons_succ]
    refine st_to (v := (.pointer (some ⟨b1, 1, none⟩))) (some 37) rfl rfl (ex_fa (p := (.pointer (some ⟨b1, 0, none⟩))) rfl rfl (fa26_1 _ _)) ?_
    simp only [Act.put, List.setIfInBounds_toArray, List.set_cons_zero, List.set_cons_succ]
    refine st_to (v := (.int .i64 t.a)) (some 38) rfl rfl (ex_load (p := (.pointer (some ⟨b1, 1, none⟩))) rfl rfl (ld3 (at_cell k1 hT.c1))) ?_
    simp only [Act.put, List.setIfInBounds_toArray, List.set_cons_zero, List.set_cons_succ]
    refine st_to (v := (.bool true)) (some 39) rfl rfl (ex_bin (u := (.int .i64 t.a)) (r := (.int .i64 0)) rfl rfl rfl (eg3 _ _ _ _ _ _) (geq3 _ (decide_eq_true c5))) ?_
    simp only [Act.put, List.setIfInBounds_toArray, List.set_cons_zero, List.set_cons_succ]
    refine st_to (v := (.bool true)) (some 40) rfl rfl (ex_pkT rfl rfl rfl) ?_
    simp only [Act.put, List.setIfInBounds_toArray, List.set_cons_zero, List.set_cons_succ]
    refine st_to (v := (.bool true)) (some 41) rfl rfl (ex_mv rfl rfl) ?_
    simp only [Act.put, List.setIfInBounds_toArray, List.set_cons_zero, List.set_cons_succ]
    refine st_to (v := (.pointer (some ⟨b1, 1, none⟩))) (some 42) rfl rfl (ex_fa (p := (.pointer (some ⟨b1, 0, none⟩))) rfl rfl (fa26_1 _ _)) ?_
    simp only [Act.put, List.setIfInBounds_toArray, List.set_cons_zero, List.set_cons_succ]
    refine st_to (v := (.int .i64 t.a)) (some 43) rfl rfl (ex_load (p := (.pointer (some ⟨b1, 1, none⟩))) rfl rfl (ld3 (at_cell k1 hT.c1))) ?_
    simp only [Act.put, List.setIfInBounds_toArray, List.set_cons_zero, List.set_cons_succ]
    refine st_to (v := (.pointer (some ⟨b1, 2, none⟩))) (some 44) rfl rfl (ex_fa (p := (.pointer (some ⟨b1, 0, none⟩))) rfl rfl (fa26_2 _ _)) ?_
    simp only [Act.put, List.setIfInBounds_toArray, List.set_cons_zero, List.set_cons_succ]
    refine st_to (v := (.int .i64 t.b)) (some 45) rfl rfl (ex_load (p := (.pointer (some ⟨b1, 2, none⟩))) rfl rfl (ld3 (at_cell k1 hT.c2))) ?_
    simp only [Act.put, List.setIfInBounds_toArray, List.set_cons_zero, List.set_cons_succ]
    refine st_to (v := (.bool true)) (some 46) rfl rfl (ex_bin (u := (.int .i64 t.a)) (r := (.int .i64 t.b)) rfl rfl rfl (eg3 _ _ _ _ _ _) (lss3 _ (decide_eq_true c6))) ?_
    simp only [Act.put, List.setIfInBounds_toArray, List.set_cons_zero, List.set_cons_succ]
    refine st_to (v := (.bool true)) (some 47) rfl rfl (ex_pkT rfl rfl rfl) ?_
    simp only [Act.put, List.setIfInBounds_toArray, List.set_cons_zero, List.set_cons_succ]
    refine st_to (v := (.bool true)) (some 48) rfl rfl (ex_mv rfl rfl) ?_
    simp only [Act.put, List.setIfInBounds_toArray, List.set_cons_zero, List.set_cons_succ]
    refine st_to (v := (.pointer (some ⟨b1, 2, none⟩))) (some 49) rfl rfl (ex_fa (p := (.pointer (some ⟨b1, 0, none⟩))) rfl rfl (fa26_2 _ _)) ?_
    simp only [Act.put, List.setIfInBounds_toArray, List.set_cons_zero, List.set_cons_succ]
    refine st_to (v := (.int .i64 t.b)) (some 50) rfl rfl (ex_load (p := (.pointer (some ⟨b1, 2, none⟩))) rfl rfl (ld3 (at_cell k1 hT.c2))) ?_
    simp only [Act.put, List.setIfInBounds_toArray, List.set_cons_zero, List.set_cons_succ]
    refine st_to (v := (.bool true)) (some 51) rfl rfl (ex_bin (u := (.int .i64 t.b)) (r := (.int .i64 8)) rfl rfl rfl (eg3 _ _ _ _ _ _) (lss3 _ (decide_eq_true c7))) ?_
    simp only [Act.put, List.setIfInBounds_toArray, List.set_cons_zero, List.set_cons_succ]
    refine st_to (v := (.bool true)) (some 52) rfl rfl (ex_pkT rfl rfl rfl) ?_
    simp only [Act.put, List.setIfInBounds_toArray, List.set_cons_zero, List.set_cons_succ]
    refine st_to (v := (.bool true)) (some 53) rfl rfl (ex_mv rfl rfl) ?_
    simp only [Act.put, List.setIfInBounds_toArray, List.set_cons_zero, List.set_cons_succ]
    refine st_to (v := (.pointer (some ⟨b1, 3, none⟩))) (some 54) rfl rfl (ex_fa (p := (.pointer (some ⟨b1, 0, none⟩))) rfl rfl (fa26_3 _ _)) ?_
    simp only [Act.put, List.setIfInBounds_toArray, List.set_cons_zero, List.set_cons_succ]
    refine st_to (v := (.pointer (some ⟨b1, 35, none⟩))) (some 55) rfl rfl (ex_fa rfl rfl (faR _ 0 _)) ?_
    simp only [Act.put, List.setIfInBounds_toArray, List.set_cons_zero, List.set_cons_succ]
    refine st_to (v := (.int .i64 t.fo)) (some 56) rfl rfl (ex_load (p := (.pointer (some ⟨b1, 35, none⟩))) rfl rfl (ld3 (at_cell k1 hT.c35))) ?_
    simp only [Act.put, List.setIfInBounds_toArray, List.set_cons_zero, List.set_cons_succ]
    refine st_to (v := (.bool true)) (some 57) rfl rfl (ex_bin (u := (.int .i64 t.fo)) (r := (.int .i64 0)) rfl rfl rfl (eg3 _ _ _ _ _ _) (geq3 _ (decide_eq_true c8))) ?_
    simp only [Act.put, List.setIfInBounds_toArray, List.set_cons_zero, List.set_cons_succ]
    refine st_to (v := (.bool true)) (some 58) rfl rfl (ex_pkT rfl rfl rfl) ?_
    simp only [Act.put, List.setIfInBounds_toArray, List.set_cons_zero, List.set_cons_succ]
    refine st_to (v := (.bool true)) (some 59) rfl rfl (ex_mv rfl rfl) ?_
    simp only [Act.put, List.setIfInBounds_toArray, List.set_cons_zero, List.set_cons_succ]
    refine st_to (v := (.pointer (some ⟨b1, 38, none⟩))) (some 60) rfl rfl (ex_fa (p := (.pointer (some ⟨b1, 0, none⟩))) rfl rfl (fa26_6 _ _)) ?_
    simp only [Act.put, List.setIfInBounds_toArray, List.set_cons_zero, List.set_cons_succ]
    refine st_to (v := (.int .i64 t.d)) (some 61) rfl rfl (ex_load (p := (.pointer (some ⟨b1, 38, none⟩))) rfl rfl (ld3 (at_cell k1 hT.c38))) ?_
    simp only [Act.put, List.setIfInBounds_toArray, List.set_cons_zero, List.set_cons_succ]
    refine st_to (v := (.bool true)) (some 62) rfl rfl (ex_bin (u := (.int .i64 t.d)) (r := (.int .i64 1)) rfl rfl rfl (eg3 _ _ _ _ _ _) (geq3 _ (decide_eq_true c9))) ?_
    simp only [Act.put, List.setIfInBounds_toArray, List.set_cons_zero, List.set_cons_succ]
    refine st_to (v := (.bool true)) (some 63) rfl rfl (ex_pkT rfl rfl rfl) ?_
    simp only [Act.put, List.setIfInBounds_toArray, List.set_cons_zero, List.set_cons_succ]
    refine st_to (v := (.bool true)) (some 64) rfl rfl (ex_mv rfl rfl) ?_
    simp only [Act.put, List.setIfInBounds_toArray, List.set_cons_zero, List.set_cons_succ]
    refine st_to (v := (.pointer (some ⟨b1, 38, none⟩))) (some 65) rfl rfl (ex_fa (p := (.pointer (some ⟨b1, 0, none⟩))) rfl rfl (fa26_6 _ _)) ?_
    simp only [Act.put, List.setIfInBounds_toArray, List.set_cons_zero, List.set_cons_succ]
    refine st_to (v := (.int .i64 t.d)) (some 66) rfl rfl (ex_load (p := (.pointer (some ⟨b1, 38, none⟩))) rfl rfl (ld3 (at_cell k1 hT.c38))) ?_
    simp only [Act.put, List.setIfInBounds_toArray, List.set_cons_zero, List.set_cons_succ]
    refine st_to (v := (.bool true)) (some 67) rfl rfl (ex_bin (u := (.int .i64 t.d)) (r := (.int .i64 1000)) rfl rfl rfl (eg3 _ _ _ _ _ _) (leq3 _ (decide_eq_true c10))) ?_
    simp only [Act.put, List.setIfInBounds_toArray, List.set_cons_zero, List.set_cons_succ]
    refine st_to (v := (.bool true)) (some 68) rfl rfl (ex_pkT rfl rfl rfl) ?_
    simp only [Act.put, List.setIfInBounds_toArray, List.set_cons_zero, List.set_cons_succ]
    refine st_to (v := (.bool true)) (some 69) rfl rfl (ex_mv rfl rfl) ?_
    simp only [Act.put, List.setIfInBounds_toArray, List.set_cons_zero, List.set_cons_succ]
    refine st_to (v := (.pointer (some ⟨b1, 41, none⟩))) (some 70) rfl rfl (ex_fa (p := (.pointer (some ⟨b1, 0, none⟩))) rfl rfl (fa26_9 _ _)) ?_
    simp only [Act.put, List.setIfInBounds_toArray, List.set_cons_zero, List.set_cons_succ]
    refine st_to (v := (.int .i64 t.sl)) (some 71) rfl rfl (ex_load (p := (.pointer (some ⟨b1, 41, none⟩))) rfl rfl (ld3 (at_cell k1 hT.c41))) ?_
    simp only [Act.put, List.setIfInBounds_toArray, List.set_cons_zero, List.set_cons_succ]
    refine st_to (v := (.bool true)) (some 72) rfl rfl (ex_bin (u := (.int .i64 t.sl)) (r := (.int .i64 1)) rfl rfl rfl (eg3 _ _ _ _ _ _) (geq3 _ (decide_eq_true c11))) ?_
    simp only [Act.put, List.setIfInBounds_toArray, List.set_cons_zero, List.set_cons_succ]
    refine st_to (v := (.bool true)) (some 73) rfl rfl (ex_pkT rfl rfl rfl) ?_
    simp only [Act.put, List.setIfInBounds_toArray, List.set_cons_zero, List.set_cons_succ]
    refine st_to (v := (.bool true)) (some 74) rfl rfl (ex_mv rfl rfl) ?_
    simp only [Act.put, List.setIfInBounds_toArray, List.set_cons_zero, List.set_cons_succ]
    refine st_to (v := (.pointer (some ⟨b1, 41, none⟩))) (some 75) rfl rfl (ex_fa (p := (.pointer (some ⟨b1, 0, none⟩))) rfl rfl (fa26_9 _ _)) ?_
    simp only [Act.put, List.setIfInBounds_toArray, List.set_cons_zero, List.set_cons_succ]
    refine st_to (v := (.int .i64 t.sl)) (some 76) rfl rfl (ex_load (p := (.pointer (some ⟨b1, 41, none⟩))) rfl rfl (ld3 (at_cell k1 hT.c41))) ?_
    simp only [Act.put, List.setIfInBounds_toArray, List.set_cons_zero, List.set_cons_succ]
    refine st_to (v := (.bool false)) (some 77) rfl rfl (ex_bin (u := (.int .i64 t.sl)) (r := (.int .i64 16)) rfl rfl rfl (eg3 _ _ _ _ _ _) (leq3 _ (decide_eq_false c12))) ?_
    simp only [Act.put, List.setIfInBounds_toArray, List.set_cons_zero, List.set_cons_succ]
    refine st_to (v := (.bool false)) (some 78) rfl rfl (ex_pkT rfl rfl rfl) ?_
    simp only [Act.put, List.setIfInBounds_toArray, List.set_cons_zero, List.set_cons_succ]
    refine st_to (v := (.bool false)) (some 2) rfl rfl (ex_asg rfl rfl) ?_
    simp only [Act.put, List.setIfInBounds_toArray, List.set_cons_zero, List.set_cons_succ]
    refine st_end ?_
    subst hQ
    refine wp_ret ?_
    refine bodyPost_ret (results_tmp Try.results12 _ _ _) rfl ⟨?_, E⟩
    show Ending.returned (.bool false) = _
    rw [decide_eq_false (fun h => c12 h.2.2.2.2.2.2.2.2.2.2.2)]
  have E : Below w.heap.size w w := Below.refl _ _
  go_enter Try.func12, Try.ntmps12
  refine wp_seq ?_
  refine wl_in ?_
  refine wl_cap fun Q hQ => ?_
  refine st_new (fun b => .pointer (some ⟨b, 0, none⟩)) (some 1) rfl rfl (ex_box rfl rfl) ?_
  intro b1 W1 k1 g1 B
  simp only [Act.put, List.setIfInBounds_toArray, List.set_cons_zero, List.set_cons_succ]
  have ge_b1 := Nat.le_trans E.size g1
  replace E := below_next E B
  clear B
  refine st_to (v := (.bool false)) (some 2) rfl rfl (ex_asg rfl rfl) ?_
  simp only [Act.put, List.setIfInBounds_toArray, List.set_cons_zero, List.set_cons_succ]
  refine st_end ?_
  subst hQ
  refine wp_seq ?_
  refine wl_in ?_
  refine wl_cap fun Q hQ => ?_
  refine st_to (v := (.pointer (some ⟨b1, 36, none⟩))) (some 6) rfl rfl (ex_fa (p := (.pointer (some ⟨b1, 0, none⟩))) rfl rfl (fa26_4 _ _)) ?_
  simp only [Act.put, List.setIfInBounds_toArray, List.set_cons_zero, List.set_cons_succ]
  refine st_to (v := (.int .i64 t.sa)) (some 7) rfl rfl (ex_load (p := (.pointer (some ⟨b1, 36, none⟩))) rfl rfl (ld3 (at_cell k1 hT.c36))) ?_
  simp only [Act.put, List.setIfInBounds_toArray, List.set_cons_zero, List.set_cons_succ]
  refine st_to (v := (.pointer (some ⟨b1, 37, none⟩))) (some 8) rfl rfl (ex_fa (p := (.pointer (some ⟨b1, 0, none⟩))) rfl rfl (fa26_5 _ _)) ?_
  simp only [Act.put, List.setIfInBounds_toArray, List.set_cons_zero, List.set_cons_succ]
  refine st_to (v := (.int .i64 t.sb)) (some 9) rfl rfl (ex_load (p := (.pointer (some ⟨b1, 37, none⟩))) rfl rfl (ld3 (at_cell k1 hT.c37))) ?_
  simp only [Act.put, List.setIfInBounds_toArray, List.set_cons_zero, List.set_cons_succ]
  refine st_new (fun b => .slice (some ⟨b, 0, none⟩) 2 2) (some 10) rfl rfl (ex_bsl2 (u := (.int .i64 t.sa)) (r := (.int .i64 t.sb)) rfl rfl rfl (bs82_2 _ _ _)) ?_
  intro b2 W2 k2 g2 B
  simp only [Act.put, List.setIfInBounds_toArray, List.set_cons_zero, List.set_cons_succ]
  have ne_b2_b1 : b2 ≠ b1 := fun e => by have := lt_of k1; omega
  have ge_b2 := Nat.le_trans E.size g2
  replace E := below_next E B
  replace k1 := keep B k1
  clear B
  refine st_call (some 11) rfl rfl (sum2_ok k2 c1) (ex_call (f := 34) (vs := [(.slice (some ⟨b2, 0, none⟩) 2 2)]) rfl (cf34 _) rfl) ?_
  rintro e W3 ⟨rfl, B⟩
  refine ⟨_, rfl, ?_⟩
  simp only [Act.put, List.setIfInBounds_toArray, List.set_cons_zero, List.set_cons_succ]
  replace E := below_next E B
  replace k1 := keep B k1
  replace k2 := keep B k2
  refine st_to (v := (.tuple #[(.int .i64 (t.sa + t.sb)), (.int .i64 0)])) (some 5) rfl rfl (ex_mv rfl rfl) ?_
  simp only [Act.put, List.setIfInBounds_toArray, List.set_cons_zero, List.set_cons_succ]
  refine st_to (v := (.int .i64 (t.sa + t.sb))) (some 12) rfl rfl (ex_ext rfl rfl rfl) ?_
  simp only [Act.put, List.setIfInBounds_toArray, List.set_cons_zero, List.set_cons_succ]
  refine st_to (v := (.int .i64 0)) (some 13) rfl rfl (ex_ext rfl rfl rfl) ?_
  simp only [Act.put, List.setIfInBounds_toArray, List.set_cons_zero, List.set_cons_succ]
  refine st_to (v := (.int .i64 (t.sa + t.sb))) (some 3) rfl rfl (ex_asg rfl rfl) ?_
  simp only [Act.put, List.setIfInBounds_toArray, List.set_cons_zero, List.set_cons_succ]
  refine st_to (v := (.int .i64 0)) (some 4) rfl rfl (ex_asg rfl rfl) ?_
  simp only [Act.put, List.setIfInBounds_toArray, List.set_cons_zero, List.set_cons_succ]
  refine st_end ?_
  subst hQ
  refine wp_seq ?_
  refine wl_in ?_
  refine wl_cap fun Q hQ => ?_
  refine st_to (v := (.int .i64 0)) (some 14) rfl rfl (ex_mv rfl rfl) ?_
  simp only [Act.put, List.setIfInBounds_toArray, List.set_cons_zero, List.set_cons_succ]
  refine st_to (v := (.bool true)) (some 15) rfl rfl (ex_bin (u := (.int .i64 0)) (r := (.int .i64 0)) rfl rfl rfl (eg35 _ _ _ _ _ _) (eql35 _ (by decide))) ?_
  simp only [Act.put, List.setIfInBounds_toArray, List.set_cons_zero, List.set_cons_succ]
  refine st_to (v := (.bool true)) (some 16) rfl rfl (ex_mv rfl rfl) ?_
  simp only [Act.put, List.setIfInBounds_toArray, List.set_cons_zero, List.set_cons_succ]
  refine st_to (v := (.pointer (some ⟨b1, 39, none⟩))) (some 17) rfl rfl (ex_fa (p := (.pointer (some ⟨b1, 0, none⟩))) rfl rfl (fa26_7 _ _)) ?_
  simp only [Act.put, List.setIfInBounds_toArray, List.set_cons_zero, List.set_cons_succ]
  refine st_to (v := (.int .i64 t.fee)) (some 18) rfl rfl (ex_load (p := (.pointer (some ⟨b1, 39, none⟩))) rfl rfl (ld3 (at_cell k1 hT.c39))) ?_
  simp only [Act.put, List.setIfInBounds_toArray, List.set_cons_zero, List.set_cons_succ]
  refine st_to (v := (.pointer (some ⟨b1, 40, none⟩))) (some 19) rfl rfl (ex_fa (p := (.pointer (some ⟨b1, 0, none⟩))) rfl rfl (fa26_8 _ _)) ?_
  simp only [Act.put, List.setIfInBounds_toArray, List.set_cons_zero, List.set_cons_succ]
  refine st_to (v := (.int .i64 t.res)) (some 20) rfl rfl (ex_load (p := (.pointer (some ⟨b1, 40, none⟩))) rfl rfl (ld3 (at_cell k1 hT.c40))) ?_
  simp only [Act.put, List.setIfInBounds_toArray, List.set_cons_zero, List.set_cons_succ]
  refine st_to (v := (.pointer (some ⟨b1, 42, none⟩))) (some 21) rfl rfl (ex_fa (p := (.pointer (some ⟨b1, 0, none⟩))) rfl rfl (fa26_10 _ _)) ?_
  simp only [Act.put, List.setIfInBounds_toArray, List.set_cons_zero, List.set_cons_succ]
  refine st_to (v := (.int .i64 t.fl)) (some 22) rfl rfl (ex_load (p := (.pointer (some ⟨b1, 42, none⟩))) rfl rfl (ld3 (at_cell k1 hT.c42))) ?_
  simp only [Act.put, List.setIfInBounds_toArray, List.set_cons_zero, List.set_cons_succ]
  refine st_new (fun b => .slice (some ⟨b, 0, none⟩) 3 3) (some 23) rfl rfl (ex_bsl3 (u := (.int .i64 t.fee)) (r := (.int .i64 t.res)) (s := (.int .i64 t.fl)) rfl rfl rfl rfl (bs82_3 _ _ _ _)) ?_
  intro b3 W4 k3 g3 B
  simp only [Act.put, List.setIfInBounds_toArray, List.set_cons_zero, List.set_cons_succ]
  have ne_b3_b1 : b3 ≠ b1 := fun e => by have := lt_of k1; omega
  have ne_b3_b2 : b3 ≠ b2 := fun e => by have := lt_of k2; omega
  have ge_b3 := Nat.le_trans E.size g3
  replace E := below_next E B
  replace k1 := keep B k1
  replace k2 := keep B k2
  clear B
  refine st_call (some 24) rfl rfl (areAm k3 hb.fee hb.res hb.fl (decide_eq_true c2)) (ex_call (f := 35) (vs := [(.slice (some ⟨b3, 0, none⟩) 3 3)]) rfl (cf35 _) rfl) ?_
  rintro e W5 ⟨rfl, B⟩
  refine ⟨_, rfl, ?_⟩
  simp only [Act.put, List.setIfInBounds_toArray, List.set_cons_zero, List.set_cons_succ]
  replace E := below_next E B
  replace k1 := keep B k1
  replace k2 := keep B k2
  replace k3 := keep B k3
  refine st_to (v := (.bool true)) (some 25) rfl rfl (ex_pkT rfl rfl rfl) ?_
  simp only [Act.put, List.setIfInBounds_toArray, List.set_cons_zero, List.set_cons_succ]
  refine st_to (v := (.bool true)) (some 26) rfl rfl (ex_mv rfl rfl) ?_
  simp only [Act.put, List.setIfInBounds_toArray, List.set_cons_zero, List.set_cons_succ]
  refine st_to (v := (.pointer (some ⟨b1, 0, none⟩))) (some 27) rfl rfl (ex_fa (p := (.pointer (some ⟨b1, 0, none⟩))) rfl rfl (fa26_0 _ _)) ?_
  simp only [Act.put, List.setIfInBounds_toArray, List.set_cons_zero, List.set_cons_succ]
  refine st_to (v := (.int .i64 t.ch)) (some 28) rfl rfl (ex_load (p := (.pointer (some ⟨b1, 0, none⟩))) rfl rfl (ld3 (at_cell k1 hT.c0))) ?_
  simp only [Act.put, List.setIfInBounds_toArray, List.set_cons_zero, List.set_cons_succ]
  refine st_to (v := (.bool true)) (some 29) rfl rfl (ex_bin (u := (.int .i64 t.ch)) (r := (.int .i64 1)) rfl rfl rfl (eg3 _ _ _ _ _ _) (geq3 _ (decide_eq_true c3))) ?_
  simp only [Act.put, List.setIfInBounds_toArray, List.set_cons_zero, List.set_cons_succ]
  refine st_to (v := (.bool true)) (some 30) rfl rfl (ex_pkT rfl rfl rfl) ?_
  simp only [Act.put, List.setIfInBounds_toArray, List.set_cons_zero, List.set_cons_succ]
  refine st_to (v := (.bool true)) (some 31) rfl rfl (ex_mv rfl rfl) ?_
  simp only [Act.put, List.setIfInBounds_toArray, List.set_cons_zero, List.set_cons_succ]
  refine st_to (v := (.pointer (some ⟨b1, 0, none⟩))) (some 32) rfl rfl (ex_fa (p := (.pointer (some ⟨b1, 0, none⟩))) rfl rfl (fa26_0 _ _)) ?_
  simp only [Act.put, List.setIfInBounds_toArray, List.set_cons_zero, List.set_cons_succ]
  refine st_to (v := (.int .i64 t.ch)) (some 33) rfl rfl (ex_load (p := (.pointer (some ⟨b1, 0, none⟩))) rfl rfl (ld3 (at_cell k1 hT.c0))) ?_
  simp only [Act.put, List.setIfInBounds_toArray, List.set_cons_zero, List.set_cons_succ]
  refine st_to (v := (.bool true)) (some 34) rfl rfl (ex_bin (u := (.int .i64 t.ch)) (r := (.int .i64 65535)) rfl rfl rfl (eg3 _ _ _ _ _ _) (leq3 _ (decide_eq_true c4))) ?_
  simp only [Act.put, List.setIfInBounds_toArray, List.set_cons_zero, List.set_cons_succ]
  refine st_to (v := (.bool true)) (some 35) rfl rfl (ex_pkT rfl rfl rfl) ?_
  simp only [Act.put, List.setIfInBounds_toArray, List.set_cons_zero, List.set_cons_succ]
  refine st_to (v := (.bool true)) (some 36) rfl rfl (ex_mv rfl rfl) ?_
  simp only [Act.put, List.setIfInBounds_toArray, List.set_cons_zero, List.set_cons_succ]
  refine st_to (v := (.pointer (some ⟨b1, 1, none⟩))) (some 37) rfl rfl (ex_fa (p := (.pointer (some ⟨b1, 0, none⟩))) rfl rfl (fa26_1 _ _)) ?_
  simp only [Act.put, List.setIfInBounds_toArray, List.set_cons_zero, List.set_cons_succ]
  refine st_to (v := (.int .i64 t.a)) (some 38) rfl rfl (ex_load (p := (.pointer (some ⟨b1, 1, none⟩))) rfl rfl (ld3 (at_cell k1 hT.c1))) ?_
  simp only [Act.put, List.setIfInBounds_toArray, List.set_cons_zero, List.set_cons_succ]
  refine st_to (v := (.bool true)) (some 39) rfl rfl (ex_bin (u := (.int .i64 t.a)) (r := (.int .i64 0)) rfl rfl rfl (eg3 _ _ _ _ _ _) (geq3 _ (decide_eq_true c5))) ?_
  simp only [Act.put, List.setIfInBounds_toArray, List.set_cons_zero, List.set_cons_succ]
  refine st_to (v := (.bool true)) (some 40) rfl rfl (ex_pkT rfl rfl rfl) ?_
  simp only [Act.put, List.setIfInBounds_toArray, List.set_cons_zero, List.set_cons_succ]
  refine st_to (v := (.bool true)) (some 41) rfl rfl (ex_mv rfl rfl) ?_
  simp only [Act.put, List.setIfInBounds_toArray, List.set_cons_zero, List.set_cons_succ]
  refine st_to (v := (.pointer (some ⟨b1, 1, none⟩))) (some 42) rfl rfl (ex_fa (p := (.pointer (some ⟨b1, 0, none⟩))) rfl rfl (fa26_1 _ _)) ?_
  simp only [Act.put, List.setIfInBounds_toArray, List.set_cons_zero, List.set_cons_succ]
  refine st_to (v := (.int .i64 t.a)) (some 43) rfl rfl (ex_load (p := (.pointer (some ⟨b1, 1, none⟩))) rfl rfl (ld3 (at_cell k1 hT.c1))) ?_
  simp only [Act.put, List.setIfInBounds_toArray, List.set_cons_zero, List.set_cons_succ]
  refine st_to (v := (.pointer (some ⟨b1, 2, none⟩))) (some 44) rfl rfl (ex_fa (p := (.pointer (some ⟨b1, 0, none⟩))) rfl rfl (fa26_2 _ _)) ?_
  simp only [Act.put, List.setIfInBounds_toArray, List.set_cons_zero, List.set_cons_succ]
  refine st_to (v := (.int .i64 t.b)) (some 45) rfl rfl (ex_load (p := (.pointer (some ⟨b1, 2, none⟩))) rfl rfl (ld3 (at_cell k1 hT.c2))) ?_
  simp only [Act.put, List.setIfInBounds_toArray, List.set_cons_zero, List.set_cons_succ]
  refine st_to (v := (.bool true)) (some 46) rfl rfl (ex_bin (u := (.int .i64 t.a)) (r := (.int .i64 t.b)) rfl rfl rfl (eg3 _ _ _ _ _ _) (lss3 _ (decide_eq_true c6))) ?_
  simp only [Act.put, List.setIfInBounds_toArray, List.set_cons_zero, List.set_cons_succ]
  refine st_to (v := (.bool true)) (some 47) rfl rfl (ex_pkT rfl rfl rfl) ?_
  simp only [Act.put, List.setIfInBounds_toArray, List.set_cons_zero, List.set_cons_succ]
  refine st_to (v := (.bool true)) (some 48) rfl rfl (ex_mv rfl rfl) ?_
  simp only [Act.put, List.setIfInBounds_toArray, List.set_cons_zero, List.set_cons_succ]
  refine st_to (v := (.pointer (some ⟨b1, 2, none⟩))) (some 49) rfl rfl (ex_fa (p := (.pointer (some ⟨b1, 0, none⟩))) rfl rfl (fa26_2 _ _)) ?_
  simp only [Act.put, List.setIfInBounds_toArray, List.set_cons_zero, List.set_cons_succ]
  refine st_to (v := (.int .i64 t.b)) (some 50) rfl rfl (ex_load (p := (.pointer (some ⟨b1, 2, none⟩))) rfl rfl (ld3 (at_cell k1 hT.c2))) ?_
  simp only [Act.put, List.setIfInBounds_toArray, List.set_cons_zero, List.set_cons_succ]
  refine st_to (v := (.bool true)) (some 51) rfl rfl (ex_bin (u := (.int .i64 t.b)) (r := (.int .i64 8)) rfl rfl rfl (eg3 _ _ _ _ _ _) (lss3 _ (decide_eq_true c7))) ?_
  simp only [Act.put, List.setIfInBounds_toArray, List.set_cons_zero, List.set_cons_succ]
  refine st_to (v := (.bool true)) (some 52) rfl rfl (ex_pkT rfl rfl rfl) ?_
  simp only [Act.put, List.setIfInBounds_toArray, List.set_cons_zero, List.set_cons_succ]
  refine st_to (v := (.bool true)) (some 53) rfl rfl (ex_mv rfl rfl) ?_
  simp only [Act.put, List.setIfInBounds_toArray, List.set_cons_zero, List.set_cons_succ]
  refine st_to (v := (.pointer (some ⟨b1, 3, none⟩))) (some 54) rfl rfl (ex_fa (p := (.pointer (some ⟨b1, 0, none⟩))) rfl rfl (fa26_3 _ _)) ?_
  simp only [Act.put, List.setIfInBounds_toArray, List.set_cons_zero, List.set_cons_succ]
  refine st_to (v := (.pointer (some ⟨b1, 35, none⟩))) (some 55) rfl rfl (ex_fa rfl rfl (faR _ 0 _)) ?_
  simp only [Act.put, List.setIfInBounds_toArray, List.set_cons_zero, List.set_cons_succ]
  refine st_to (v := (.int .i64 t.fo)) (some 56) rfl rfl (ex_load (p := (.pointer (some ⟨b1, 35, none⟩))) rfl rfl (ld3 (at_cell k1 hT.c35))) ?_
  simp only [Act.put, List.setIfInBounds_toArray, List.set_cons_zero, List.set_cons_succ]
  refine st_to (v := (.bool true)) (some 57) rfl rfl (ex_bin (u := (.int .i64 t.fo)) (r := (.int .i64 0)) rfl rfl rfl (eg3 _ _ _ _ _ _) (geq3 _ (decide_eq_true c8))) ?_
  simp only [Act.put, List.setIfInBounds_toArray, List.set_cons_zero, List.set_cons_succ]
  refine st_to (v := (.bool true)) (some 58) rfl rfl (ex_pkT rfl rfl rfl) ?_
  simp only [Act.put, List.setIfInBounds_toArray, List.set_cons_zero, List.set_cons_succ]
  refine st_to (v := (.bool true)) (some 59) rfl rfl (ex_mv rfl rfl) ?_
  simp only [Act.put, List.setIfInBounds_toArray, List.set_cons_zero, List.set_cons_succ]
  refine st_to (v := (.pointer (some ⟨b1, 38, none⟩))) (some 60) rfl rfl (ex_fa (p := (.pointer (some ⟨b1, 0, none⟩))) rfl rfl (fa26_6 _ _)) ?_
  simp only [Act.put, List.setIfInBounds_toArray, List.set_cons_zero, List.set_cons_succ]
  refine st_to (v := (.int .i64 t.d)) (some 61) rfl rfl (ex_load (p := (.pointer (some ⟨b1, 38, none⟩))) rfl rfl (ld3 (at_cell k1 hT.c38))) ?_
  simp only [Act.put, List.setIfInBounds_toArray, List.set_cons_zero, List.set_cons_succ]
  refine st_to (v := (.bool true)) (some 62) rfl rfl (ex_bin (u := (.int .i64 t.d)) (r := (.int .i64 1)) rfl rfl rfl (eg3 _ _ _ _ _ _) (geq3 _ (decide_eq_true c9))) ?_
  simp only [Act.put, List.setIfInBounds_toArray, List.set_cons_zero, List.set_cons_succ]
  refine st_to (v := (.bool true)) (some 63) rfl rfl (ex_pkT rfl rfl rfl) ?_
  simp only [Act.put, List.setIfInBounds_toArray, List.set_cons_zero, List.set_cons_succ]
  refine st_to (v := (.bool true)) (some 64) rfl rfl (ex_mv rfl rfl) ?_
  simp only [Act.put, List.setIfInBounds_toArray, List.set_cons_zero, List.set_cons_succ]
  refine st_to (v := (.pointer (some ⟨b1, 38, none⟩))) (some 65) rfl rfl (ex_fa (p := (.pointer (some ⟨b1, 0, none⟩))) rfl rfl (fa26_6 _ _)) ?_
  simp only [Act.put, List.setIfInBounds_toArray, List.set_cons_zero, List.set_cons_succ]
  refine st_to (v := (.int .i64 t.d)) (some 66) rfl rfl (ex_load (p := (.pointer (some ⟨b1, 38, none⟩))) rfl rfl (ld3 (at_cell k1 hT.c38))) ?_
  simp only [Act.put, List.setIfInBounds_toArray, List.set_cons_zero, List.set_cons_succ]
  refine st_to (v := (.bool true)) (some 67) rfl rfl (ex_bin (u := (.int .i64 t.d)) (r := (.int .i64 1000)) rfl rfl rfl (eg3 _ _ _ _ _ _) (leq3 _ (decide_eq_true c10))) ?_
  simp only [Act.put, List.setIfInBounds_toArray, List.set_cons_zero, List.set_cons_succ]
  refine st_to (v := (.bool true)) (some 68) rfl rfl (ex_pkT rfl rfl rfl) ?_
  simp only [Act.put, List.setIfInBounds_toArray, List.set_cons_zero, List.set_cons_succ]
  refine st_to (v := (.bool true)) (some 69) rfl rfl (ex_mv rfl rfl) ?_
  simp only [Act.put, List.setIfInBounds_toArray, List.set_cons_zero, List.set_cons_succ]
  refine st_to (v := (.pointer (some ⟨b1, 41, none⟩))) (some 70) rfl rfl (ex_fa (p := (.pointer (some ⟨b1, 0, none⟩))) rfl rfl (fa26_9 _ _)) ?_
  simp only [Act.put, List.setIfInBounds_toArray, List.set_cons_zero, List.set_cons_succ]
  refine st_to (v := (.int .i64 t.sl)) (some 71) rfl rfl (ex_load (p := (.pointer (some ⟨b1, 41, none⟩))) rfl rfl (ld3 (at_cell k1 hT.c41))) ?_
  simp only [Act.put, List.setIfInBounds_toArray, List.set_cons_zero, List.set_cons_succ]
  refine st_to (v := (.bool true)) (some 72) rfl rfl (ex_bin (u := (.int .i64 t.sl)) (r := (.int .i64 1)) rfl rfl rfl (eg3 _ _ _ _ _ _) (geq3 _ (decide_eq_true c11))) ?_
  simp only [Act.put, List.setIfInBounds_toArray, List.set_cons_zero, List.set_cons_succ]
  refine st_to (v := (.bool true)) (some 73) rfl rfl (ex_pkT rfl rfl rfl) ?_
  simp only [Act.put, List.setIfInBounds_toArray, List.set_cons_zero, List.set_cons_succ]
  refine st_to (v := (.bool true)) (some 74) rfl rfl (ex_mv rfl rfl) ?_
  simp only [Act.put, List.setIfInBounds_toArray, List.set_cons_zero, List.set_cons_succ]
  refine st_to (v := (.pointer (some ⟨b1, 41, none⟩))) (some 75) rfl rfl (ex_fa (p := (.pointer (some ⟨b1, 0, none⟩))) rfl rfl (fa26_9 _ _)) ?_
  simp only [Act.put, List.setIfInBounds_toArray, List.set_cons_zero, List.set_cons_succ]
  refine st_to (v := (.int .i64 t.sl)) (some 76) rfl rfl (ex_load (p := (.pointer (some ⟨b1, 41, none⟩))) rfl rfl (ld3 (at_cell k1 hT.c41))) ?_
  simp only [Act.put, List.setIfInBounds_toArray, List.set_cons_zero, List.set_cons_succ]
  refine st_to (v := (.bool true)) (some 77) rfl rfl (ex_bin (u := (.int .i64 t.sl)) (r := (.int .i64 16)) rfl rfl rfl (eg3 _ _ _ _ _ _) (leq3 _ (decide_eq_true c12))) ?_
  simp only [Act.put, List.setIfInBounds_toArray, List.set_cons_zero, List.set_cons_succ]
  refine st_to (v := (.bool true)) (some 78) rfl rfl (ex_pkT rfl rfl rfl) ?_
  simp only [Act.put, List.setIfInBounds_toArray, List.set_cons_zero, List.set_cons_succ]
  refine st_to (v := (.bool true)) (some 2) rfl rfl (ex_asg rfl rfl) ?_
  simp only [Act.put, List.setIfInBounds_toArray, List.set_cons_zero, List.set_cons_succ]
  refine st_end ?_
  subst hQ
  refine wp_ret ?_
  refine bodyPost_ret (results_tmp Try.results12 _ _ _) rfl ⟨?_, E⟩
  show Ending.returned (.bool true) = _
  rw [decide_eq_true ⟨c1, c2, c3, c4, c5, c6, c7, c8, c9, c10, c11, c12⟩]

end Go.Proofs.Ytkhpbjafdamhaaa
