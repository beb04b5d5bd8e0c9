/- Small functions of deal: outputs and their paths. -/
import Derived.Test.YtkhpbjafdamhaaaDPath
namespace Go.Proofs.Ytkhpbjafdamhaaa
open Go.RowKit
set_option linter.unusedVariables false
set_option linter.unusedSimpArgs false
set_option maxRecDepth 100000

theorem cf3 (W : World) (vs : Array Value) : (callFunc 3 vs).run Try.prog W = .ok (.enter 3 vs) W := by go_simp
theorem cf4 (W : World) (vs : Array Value) : (callFunc 4 vs).run Try.prog W = .ok (.enter 4 vs) W := by go_simp
theorem cf5 (W : World) (vs : Array Value) : (callFunc 5 vs).run Try.prog W = .ok (.enter 5 vs) W := by go_simp
theorem cf6 (W : World) (vs : Array Value) : (callFunc 6 vs).run Try.prog W = .ok (.enter 6 vs) W := by go_simp
theorem cf7 (W : World) (vs : Array Value) : (callFunc 7 vs).run Try.prog W = .ok (.enter 7 vs) W := by go_simp
theorem cf8 (W : World) (vs : Array Value) : (callFunc 8 vs).run Try.prog W = .ok (.enter 8 vs) W := by go_simp
theorem cf9 (W : World) (vs : Array Value) : (callFunc 9 vs).run Try.prog W = .ok (.enter 9 vs) W := by go_simp
theorem cf10 (W : World) (vs : Array Value) : (callFunc 10 vs).run Try.prog W = .ok (.enter 10 vs) W := by go_simp
theorem cf11 (W : World) (vs : Array Value) : (callFunc 11 vs).run Try.prog W = .ok (.enter 11 vs) W := by go_simp
theorem cf12 (W : World) (vs : Array Value) : (callFunc 12 vs).run Try.prog W = .ok (.enter 12 vs) W := by go_simp
theorem cf13 (W : World) (vs : Array Value) : (callFunc 13 vs).run Try.prog W = .ok (.enter 13 vs) W := by go_simp
theorem cf14 (W : World) (vs : Array Value) : (callFunc 14 vs).run Try.prog W = .ok (.enter 14 vs) W := by go_simp
theorem cf15 (W : World) (vs : Array Value) : (callFunc 15 vs).run Try.prog W = .ok (.enter 15 vs) W := by go_simp
theorem cf16 (W : World) (vs : Array Value) : (callFunc 16 vs).run Try.prog W = .ok (.enter 16 vs) W := by go_simp
theorem cf17 (W : World) (vs : Array Value) : (callFunc 17 vs).run Try.prog W = .ok (.enter 17 vs) W := by go_simp
theorem cf18 (W : World) (vs : Array Value) : (callFunc 18 vs).run Try.prog W = .ok (.enter 18 vs) W := by go_simp
theorem cf19 (W : World) (vs : Array Value) : (callFunc 19 vs).run Try.prog W = .ok (.enter 19 vs) W := by go_simp
theorem cf20 (W : World) (vs : Array Value) : (callFunc 20 vs).run Try.prog W = .ok (.enter 20 vs) W := by go_simp
theorem cf21 (W : World) (vs : Array Value) : (callFunc 21 vs).run Try.prog W = .ok (.enter 21 vs) W := by go_simp
theorem cf22 (W : World) (vs : Array Value) : (callFunc 22 vs).run Try.prog W = .ok (.enter 22 vs) W := by go_simp
theorem cf23 (W : World) (vs : Array Value) : (callFunc 23 vs).run Try.prog W = .ok (.enter 23 vs) W := by go_simp
theorem cf24 (W : World) (vs : Array Value) : (callFunc 24 vs).run Try.prog W = .ok (.enter 24 vs) W := by go_simp
theorem cf25 (W : World) (vs : Array Value) : (callFunc 25 vs).run Try.prog W = .ok (.enter 25 vs) W := by go_simp
theorem cf26 (W : World) (vs : Array Value) : (callFunc 26 vs).run Try.prog W = .ok (.enter 26 vs) W := by go_simp
theorem cf27 (W : World) (vs : Array Value) : (callFunc 27 vs).run Try.prog W = .ok (.enter 27 vs) W := by go_simp
theorem cf28 (W : World) (vs : Array Value) : (callFunc 28 vs).run Try.prog W = .ok (.enter 28 vs) W := by go_simp
theorem cf29 (W : World) (vs : Array Value) : (callFunc 29 vs).run Try.prog W = .ok (.enter 29 vs) W := by go_simp
theorem cf30 (W : World) (vs : Array Value) : (callFunc 30 vs).run Try.prog W = .ok (.enter 30 vs) W := by go_simp
theorem cf31 (W : World) (vs : Array Value) : (callFunc 31 vs).run Try.prog W = .ok (.enter 31 vs) W := by go_simp
theorem cf32 (W : World) (vs : Array Value) : (callFunc 32 vs).run Try.prog W = .ok (.enter 32 vs) W := by go_simp
theorem cf33 (W : World) (vs : Array Value) : (callFunc 33 vs).run Try.prog W = .ok (.enter 33 vs) W := by go_simp
theorem cf34 (W : World) (vs : Array Value) : (callFunc 34 vs).run Try.prog W = .ok (.enter 34 vs) W := by go_simp
theorem cf35 (W : World) (vs : Array Value) : (callFunc 35 vs).run Try.prog W = .ok (.enter 35 vs) W := by go_simp
theorem cf36 (W : World) (vs : Array Value) : (callFunc 36 vs).run Try.prog W = .ok (.enter 36 vs) W := by go_simp
theorem cf37 (W : World) (vs : Array Value) : (callFunc 37 vs).run Try.prog W = .ok (.enter 37 vs) W := by go_simp
theorem cf38 (W : World) (vs : Array Value) : (callFunc 38 vs).run Try.prog W = .ok (.enter 38 vs) W := by go_simp
theorem cf39 (W : World) (vs : Array Value) : (callFunc 39 vs).run Try.prog W = .ok (.enter 39 vs) W := by go_simp
theorem cf40 (W : World) (vs : Array Value) : (callFunc 40 vs).run Try.prog W = .ok (.enter 40 vs) W := by go_simp
theorem cf41 (W : World) (vs : Array Value) : (callFunc 41 vs).run Try.prog W = .ok (.enter 41 vs) W := by go_simp
theorem cf42 (W : World) (vs : Array Value) : (callFunc 42 vs).run Try.prog W = .ok (.enter 42 vs) W := by go_simp
theorem cf43 (W : World) (vs : Array Value) : (callFunc 43 vs).run Try.prog W = .ok (.enter 43 vs) W := by go_simp
theorem cf44 (W : World) (vs : Array Value) : (callFunc 44 vs).run Try.prog W = .ok (.enter 44 vs) W := by go_simp
theorem cf45 (W : World) (vs : Array Value) : (callFunc 45 vs).run Try.prog W = .ok (.enter 45 vs) W := by go_simp
theorem cf46 (W : World) (vs : Array Value) : (callFunc 46 vs).run Try.prog W = .ok (.enter 46 vs) W := by go_simp
theorem cf47 (W : World) (vs : Array Value) : (callFunc 47 vs).run Try.prog W = .ok (.enter 47 vs) W := by go_simp
theorem cf48 (W : World) (vs : Array Value) : (callFunc 48 vs).run Try.prog W = .ok (.enter 48 vs) W := by go_simp
theorem cf49 (W : World) (vs : Array Value) : (callFunc 49 vs).run Try.prog W = .ok (.enter 49 vs) W := by go_simp
theorem cf50 (W : World) (vs : Array Value) : (callFunc 50 vs).run Try.prog W = .ok (.enter 50 vs) W := by go_simp
theorem cf51 (W : World) (vs : Array Value) : (callFunc 51 vs).run Try.prog W = .ok (.enter 51 vs) W := by go_simp
theorem cf52 (W : World) (vs : Array Value) : (callFunc 52 vs).run Try.prog W = .ok (.enter 52 vs) W := by go_simp
theorem cf53 (W : World) (vs : Array Value) : (callFunc 53 vs).run Try.prog W = .ok (.enter 53 vs) W := by go_simp
theorem cf54 (W : World) (vs : Array Value) : (callFunc 54 vs).run Try.prog W = .ok (.enter 54 vs) W := by go_simp
theorem cf55 (W : World) (vs : Array Value) : (callFunc 55 vs).run Try.prog W = .ok (.enter 55 vs) W := by go_simp
theorem cf56 (W : World) (vs : Array Value) : (callFunc 56 vs).run Try.prog W = .ok (.enter 56 vs) W := by go_simp
theorem cf57 (W : World) (vs : Array Value) : (callFunc 57 vs).run Try.prog W = .ok (.enter 57 vs) W := by go_simp
theorem cf58 (W : World) (vs : Array Value) : (callFunc 58 vs).run Try.prog W = .ok (.enter 58 vs) W := by go_simp
theorem cf59 (W : World) (vs : Array Value) : (callFunc 59 vs).run Try.prog W = .ok (.enter 59 vs) W := by go_simp
theorem cf60 (W : World) (vs : Array Value) : (callFunc 60 vs).run Try.prog W = .ok (.enter 60 vs) W := by go_simp
theorem cf61 (W : World) (vs : Array Value) : (callFunc 61 vs).run Try.prog W = .ok (.enter 61 vs) W := by go_simp
theorem cf62 (W : World) (vs : Array Value) : (callFunc 62 vs).run Try.prog W = .ok (.enter 62 vs) W := by go_simp
theorem cf63 (W : World) (vs : Array Value) : (callFunc 63 vs).run Try.prog W = .ok (.enter 63 vs) W := by go_simp
theorem cf64 (W : World) (vs : Array Value) : (callFunc 64 vs).run Try.prog W = .ok (.enter 64 vs) W := by go_simp
theorem cf65 (W : World) (vs : Array Value) : (callFunc 65 vs).run Try.prog W = .ok (.enter 65 vs) W := by go_simp
theorem cf66 (W : World) (vs : Array Value) : (callFunc 66 vs).run Try.prog W = .ok (.enter 66 vs) W := by go_simp
theorem cf67 (W : World) (vs : Array Value) : (callFunc 67 vs).run Try.prog W = .ok (.enter 67 vs) W := by go_simp
theorem cf68 (W : World) (vs : Array Value) : (callFunc 68 vs).run Try.prog W = .ok (.enter 68 vs) W := by go_simp
theorem cf69 (W : World) (vs : Array Value) : (callFunc 69 vs).run Try.prog W = .ok (.enter 69 vs) W := by go_simp
theorem cf70 (W : World) (vs : Array Value) : (callFunc 70 vs).run Try.prog W = .ok (.enter 70 vs) W := by go_simp
theorem cf71 (W : World) (vs : Array Value) : (callFunc 71 vs).run Try.prog W = .ok (.enter 71 vs) W := by go_simp
theorem cf72 (W : World) (vs : Array Value) : (callFunc 72 vs).run Try.prog W = .ok (.enter 72 vs) W := by go_simp
theorem cf73 (W : World) (vs : Array Value) : (callFunc 73 vs).run Try.prog W = .ok (.enter 73 vs) W := by go_simp
theorem cf74 (W : World) (vs : Array Value) : (callFunc 74 vs).run Try.prog W = .ok (.enter 74 vs) W := by go_simp
theorem cf75 (W : World) (vs : Array Value) : (callFunc 75 vs).run Try.prog W = .ok (.enter 75 vs) W := by go_simp
theorem cf76 (W : World) (vs : Array Value) : (callFunc 76 vs).run Try.prog W = .ok (.enter 76 vs) W := by go_simp
theorem cf77 (W : World) (vs : Array Value) : (callFunc 77 vs).run Try.prog W = .ok (.enter 77 vs) W := by go_simp
theorem cf78 (W : World) (vs : Array Value) : (callFunc 78 vs).run Try.prog W = .ok (.enter 78 vs) W := by go_simp
theorem IsS.ldp {C v : Array Value} {x y d : Int} (h : IsS C x y d v) {W : World} {b : Nat} (k : W.heap[b]? = some (.cells C 59)) : (Instr.loadAt 22 (.pointer (some ⟨b, 3, none⟩))).run Try.prog W = .ok (.agg v) W := by
  have := ld_part (o := 3) (n := 32) k (by rw [h.size]; decide) Try.underlying22 rfl inf22
  rw [h.part] at this
  exact this
theorem IsH.ldp {C : Array Value} {x : HV} (h : IsH C x) {W : World} {b : Nat} (k : W.heap[b]? = some (.cells C 49)) : (Instr.loadAt 22 (.pointer (some ⟨b, 3, none⟩))).run Try.prog W = .ok (.agg x.hash) W := by
  have := ld_part (o := 3) (n := 32) k (by rw [h.size]; decide) Try.underlying22 rfl inf22
  rw [h.part] at this
  exact this
theorem all_one {A B : Array Value} (ha : A.all (·.oneCell') = true) (hb : B.all (·.oneCell') = true) : (A ++ B).all (·.oneCell') = true := by simp [ha, hb]
theorem Z32_one : Z32.all (·.oneCell') = true := by kernel_rfl
theorem pth_one {a b h d : Int} {two : Bool} {x : Array Value} (hx : x.all (·.oneCell') = true) : (pth a b two h d x).all (·.oneCell') = true := all_one (by kernel_rfl) hx
theorem sub_one {C : Array Value} (h : C.all (·.oneCell') = true) (i j : Nat) : (C.extract i j).all (·.oneCell') = true := by
  rw [Array.all_eq_true] at h ⊢
  intro k hk
  have := h (i + k) (by simp at hk; omega)
  simpa using this
theorem IsS.vone {C v : Array Value} {x y d : Int} (h : IsS C x y d v) : v.all (·.oneCell') = true := h.part ▸ sub_one h.one 3 35
theorem IsH.vone {C : Array Value} {x : HV} (h : IsH C x) : x.hash.all (·.oneCell') = true := h.part ▸ sub_one h.one 3 35

theorem ret_out {next : Act → World → Prop} {Q : Exit → Act → World → Prop} {a : Act} {w : World} (h : Q .ret a w) : Exit.then next Q .ret a w := h
theorem output_any (n : Int) (p : Option Addr) (l c : Nat) (w : World) :
    Calls Try.prog 39 #[.int .i64 n, .slice p l c] w fun e w' => e = .returned (.agg #[.int .i64 n, .slice p l c]) ∧ Below w.heap.size w w' := by
  have E : Below w.heap.size w w := Below.refl _ _
  go_enter Try.func39, Try.ntmps39
  refine wp_seq ?_
  refine wl_in ?_
  refine wl_cap fun Q hQ => ?_
  refine st_new (fun b => .pointer (some ⟨b, 0, none⟩)) (some 4) rfl rfl (ex_alloc rfl zero46) ?_
  intro b1 W1 k1 g1 B
  simp only [Act.put, List.setIfInBounds_toArray, List.set_cons_zero, List.set_cons_succ]
  have ge_b1 := Nat.le_trans E.size g1
  replace E := below_next E B
  clear B
  refine st_end ?_
  subst hQ
  refine wp_seq ?_
  refine wl_in ?_
  refine wl_cap fun Q hQ => ?_
  refine st_to (v := (.int .i64 n)) (some 5) rfl rfl (ex_mv rfl rfl) ?_
  simp only [Act.put, List.setIfInBounds_toArray, List.set_cons_zero, List.set_cons_succ]
  refine st_to (v := (.slice p l c)) (some 6) rfl rfl (ex_mv rfl rfl) ?_
  simp only [Act.put, List.setIfInBounds_toArray, List.set_cons_zero, List.set_cons_succ]
  refine st_to (v := (.agg #[(.int .i64 n), (.slice p l c)])) (some 7) rfl rfl (ex_build2 (v1 := (.int .i64 n)) (v2 := (.slice p l c)) rfl rfl rfl (b46_01 _ _ _ _ _)) ?_
  simp only [Act.put, List.setIfInBounds_toArray, List.set_cons_zero, List.set_cons_succ]
  obtain ⟨W2, hst, kn, K⟩ := put_all (D := #[(.int .i64 n), (.slice p l c)]) k1 rfl inf46 (by kernel_rfl)
  refine st_sk rfl rfl (ex_store rfl rfl rfl hst) ?_
  replace E := below_put E ge_b1 K
  replace k1 := kn
  clear kn K hst
  refine st_end ?_
  subst hQ
  refine wp_ret ?_
  refine bodyPost_ret (results_cell_row Try.results39 _ _ b1 _ _ _ _ rfl k1 Try.underlying46 rfl inf46) rfl ⟨rfl, E⟩

set_option maxHeartbeats 2000000 in
theorem below_any {C D : Array Value} {x y : HV} (w : World) (h : IsH C x) (h' : IsH D y) {c : Bool} (hc : belowB x y = c) :
    Calls Try.prog 55 #[.agg C, .agg D] w fun e w' => e = .returned (.bool c) ∧ Below w.heap.size w w' := by
  subst hc
  unfold belowB
  by_cases e1 : x.by_ < y.by_
  · skip
    have E : Below w.heap.size w w := Below.refl _ _
    go_enter Try.func55, Try.ntmps55
    refine wp_seq ?_
    refine wl_in ?_
    refine wl_cap fun Q hQ => ?_
    refine st_new (fun b => .pointer (some ⟨b, 0, none⟩)) (some 2) rfl rfl (ex_box rfl rfl) ?_
    intro b1 W1 k1 g1 B
    simp only [Act.put, List.setIfInBounds_toArray, List.set_cons_zero, List.set_cons_succ]
    have ge_b1 := Nat.le_trans E.size g1
    replace E := below_next E B
    clear B
    refine st_new (fun b => .pointer (some ⟨b, 0, none⟩)) (some 3) rfl rfl (ex_box rfl rfl) ?_
    intro b2 W2 k2 g2 B
    simp only [Act.put, List.setIfInBounds_toArray, List.set_cons_zero, List.set_cons_succ]
    have ne_b2_b1 : b2 ≠ b1 := fun e => by have := lt_of k1; omega
    have ge_b2 := Nat.le_trans E.size g2
    replace E := below_next E B
    replace k1 := keep B k1
    clear B
    refine st_to (v := (.bool false)) (some 4) rfl rfl (ex_asg rfl rfl) ?_
    simp only [Act.put, List.setIfInBounds_toArray, List.set_cons_zero, List.set_cons_succ]
    refine st_end ?_
    subst hQ
    refine wp_seq ?_
    refine wl_in ?_
    refine wl_cap fun Q hQ => ?_
    refine st_to (v := (.pointer (some ⟨b1, 0, none⟩))) (some 5) rfl rfl (ex_fa (p := (.pointer (some ⟨b1, 0, none⟩))) rfl rfl (fa49_0 _ _)) ?_
    simp only [Act.put, List.setIfInBounds_toArray, List.set_cons_zero, List.set_cons_succ]
    refine st_to (v := (.int .i64 x.by_)) (some 6) rfl rfl (ex_load (p := (.pointer (some ⟨b1, 0, none⟩))) rfl rfl (ld3 (at_cell k1 h.c0))) ?_
    simp only [Act.put, List.setIfInBounds_toArray, List.set_cons_zero, List.set_cons_succ]
    refine st_to (v := (.pointer (some ⟨b2, 0, none⟩))) (some 7) rfl rfl (ex_fa (p := (.pointer (some ⟨b2, 0, none⟩))) rfl rfl (fa49_0 _ _)) ?_
    simp only [Act.put, List.setIfInBounds_toArray, List.set_cons_zero, List.set_cons_succ]
    refine st_to (v := (.int .i64 y.by_)) (some 8) rfl rfl (ex_load (p := (.pointer (some ⟨b2, 0, none⟩))) rfl rfl (ld3 (at_cell k2 h'.c0))) ?_
    simp only [Act.put, List.setIfInBounds_toArray, List.set_cons_zero, List.set_cons_succ]
    refine st_to (v := (.bool true)) (some 9) rfl rfl (ex_bin (u := (.int .i64 x.by_)) (r := (.int .i64 y.by_)) rfl rfl rfl (eg3 _ _ _ _ _ _) (lss3 _ (decide_eq_true e1))) ?_
    simp only [Act.put, List.setIfInBounds_toArray, List.set_cons_zero, List.set_cons_succ]
    refine st_to (v := (.bool true)) (some 10) rfl rfl (ex_mv rfl rfl) ?_
    simp only [Act.put, List.setIfInBounds_toArray, List.set_cons_zero, List.set_cons_succ]
    refine st_no (some 11) rfl rfl ?_
    simp only [Act.put, List.setIfInBounds_toArray, List.set_cons_zero, List.set_cons_succ]
    refine st_no (some 12) rfl rfl ?_
    simp only [Act.put, List.setIfInBounds_toArray, List.set_cons_zero, List.set_cons_succ]
    refine st_no (some 13) rfl rfl ?_
    simp only [Act.put, List.setIfInBounds_toArray, List.set_cons_zero, List.set_cons_succ]
    refine st_no (some 14) rfl rfl ?_
    simp only [Act.put, List.setIfInBounds_toArray, List.set_cons_zero, List.set_cons_succ]
    refine st_no (some 15) rfl rfl ?_
    simp only [Act.put, List.setIfInBounds_toArray, List.set_cons_zero, List.set_cons_succ]
    refine st_no (some 16) rfl rfl ?_
    simp only [Act.put, List.setIfInBounds_toArray, List.set_cons_zero, List.set_cons_succ]
    refine st_no (some 17) rfl rfl ?_
    simp only [Act.put, List.setIfInBounds_toArray, List.set_cons_zero, List.set_cons_succ]
    refine st_no (some 18) rfl rfl ?_
    simp only [Act.put, List.setIfInBounds_toArray, List.set_cons_zero, List.set_cons_succ]
    refine st_no (some 19) rfl rfl ?_
    simp only [Act.put, List.setIfInBounds_toArray, List.set_cons_zero, List.set_cons_succ]
    refine st_no (some 20) rfl rfl ?_
    simp only [Act.put, List.setIfInBounds_toArray, List.set_cons_zero, List.set_cons_succ]
    refine st_no (some 21) rfl rfl ?_
    simp only [Act.put, List.setIfInBounds_toArray, List.set_cons_zero, List.set_cons_succ]
    refine st_no (some 22) rfl rfl ?_
    simp only [Act.put, List.setIfInBounds_toArray, List.set_cons_zero, List.set_cons_succ]
    refine st_to (v := (.bool true)) (some 23) rfl rfl (ex_pkT rfl rfl rfl) ?_
    simp only [Act.put, List.setIfInBounds_toArray, List.set_cons_zero, List.set_cons_succ]
    refine st_to (v := (.bool true)) (some 4) rfl rfl (ex_asg rfl rfl) ?_
    simp only [Act.put, List.setIfInBounds_toArray, List.set_cons_zero, List.set_cons_succ]
    refine st_end ?_
    subst hQ
    refine wp_ret ?_
    refine bodyPost_ret (results_tmp Try.results55 _ _ _) rfl ⟨?_, E⟩
    show Ending.returned (.bool true) = _
    rw [decide_eq_true (by omega)]

  by_cases e2 : x.by_ = y.by_
  · by_cases e3 : x.id < y.id
    · skip
      have E : Below w.heap.size w w := Below.refl _ _
      go_enter Try.func55, Try.ntmps55
      refine wp_seq ?_
      refine wl_in ?_
      refine wl_cap fun Q hQ => ?_
      refine st_new (fun b => .pointer (some ⟨b, 0, none⟩)) (some 2) rfl rfl (ex_box rfl rfl) ?_
      intro b1 W1 k1 g1 B
      simp only [Act.put, List.setIfInBounds_toArray, List.set_cons_zero, List.set_cons_succ]
      have ge_b1 := Nat.le_trans E.size g1
      replace E := below_next E B
      clear B
      refine st_new (fun b => .pointer (some ⟨b, 0, none⟩)) (some 3) rfl rfl (ex_box rfl rfl) ?_
      intro b2 W2 k2 g2 B
      simp only [Act.put, List.setIfInBounds_toArray, List.set_cons_zero, List.set_cons_succ]
      have ne_b2_b1 : b2 ≠ b1 := fun e => by have := lt_of k1; omega
      have ge_b2 := Nat.le_trans E.size g2
      replace E := below_next E B
      replace k1 := keep B k1
      clear B
      refine st_to (v := (.bool false)) (some 4) rfl rfl (ex_asg rfl rfl) ?_
      simp only [Act.put, List.setIfInBounds_toArray, List.set_cons_zero, List.set_cons_succ]
      refine st_end ?_
      subst hQ
      refine wp_seq ?_
      refine wl_in ?_
      refine wl_cap fun Q hQ => ?_
      refine st_to (v := (.pointer (some ⟨b1, 0, none⟩))) (some 5) rfl rfl (ex_fa (p := (.pointer (some ⟨b1, 0, none⟩))) rfl rfl (fa49_0 _ _)) ?_
      simp only [Act.put, List.setIfInBounds_toArray, List.set_cons_zero, List.set_cons_succ]
      refine st_to (v := (.int .i64 x.by_)) (some 6) rfl rfl (ex_load (p := (.pointer (some ⟨b1, 0, none⟩))) rfl rfl (ld3 (at_cell k1 h.c0))) ?_
      simp only [Act.put, List.setIfInBounds_toArray, List.set_cons_zero, List.set_cons_succ]
      refine st_to (v := (.pointer (some ⟨b2, 0, none⟩))) (some 7) rfl rfl (ex_fa (p := (.pointer (some ⟨b2, 0, none⟩))) rfl rfl (fa49_0 _ _)) ?_
      simp only [Act.put, List.setIfInBounds_toArray, List.set_cons_zero, List.set_cons_succ]
      refine st_to (v := (.int .i64 y.by_)) (some 8) rfl rfl (ex_load (p := (.pointer (some ⟨b2, 0, none⟩))) rfl rfl (ld3 (at_cell k2 h'.c0))) ?_
      simp only [Act.put, List.setIfInBounds_toArray, List.set_cons_zero, List.set_cons_succ]
      refine st_to (v := (.bool false)) (some 9) rfl rfl (ex_bin (u := (.int .i64 x.by_)) (r := (.int .i64 y.by_)) rfl rfl rfl (eg3 _ _ _ _ _ _) (lss3 _ (decide_eq_false e1))) ?_
      simp only [Act.put, List.setIfInBounds_toArray, List.set_cons_zero, List.set_cons_succ]
      refine st_to (v := (.bool false)) (some 10) rfl rfl (ex_mv rfl rfl) ?_
      simp only [Act.put, List.setIfInBounds_toArray, List.set_cons_zero, List.set_cons_succ]
      refine st_to (v := (.pointer (some ⟨b1, 0, none⟩))) (some 11) rfl rfl (ex_fa (p := (.pointer (some ⟨b1, 0, none⟩))) rfl rfl (fa49_0 _ _)) ?_
      simp only [Act.put, List.setIfInBounds_toArray, List.set_cons_zero, List.set_cons_succ]
      refine st_to (v := (.int .i64 x.by_)) (some 12) rfl rfl (ex_load (p := (.pointer (some ⟨b1, 0, none⟩))) rfl rfl (ld3 (at_cell k1 h.c0))) ?_
      simp only [Act.put, List.setIfInBounds_toArray, List.set_cons_zero, List.set_cons_succ]
      refine st_to (v := (.pointer (some ⟨b2, 0, none⟩))) (some 13) rfl rfl (ex_fa (p := (.pointer (some ⟨b2, 0, none⟩))) rfl rfl (fa49_0 _ _)) ?_
      simp only [Act.put, List.setIfInBounds_toArray, List.set_cons_zero, List.set_cons_succ]
      refine st_to (v := (.int .i64 y.by_)) (some 14) rfl rfl (ex_load (p := (.pointer (some ⟨b2, 0, none⟩))) rfl rfl (ld3 (at_cell k2 h'.c0))) ?_
      simp only [Act.put, List.setIfInBounds_toArray, List.set_cons_zero, List.set_cons_succ]
      refine st_to (v := (.bool true)) (some 15) rfl rfl (ex_bin (u := (.int .i64 x.by_)) (r := (.int .i64 y.by_)) rfl rfl rfl (eg3 _ _ _ _ _ _) (eql3 _ (decide_eq_true e2))) ?_
      simp only [Act.put, List.setIfInBounds_toArray, List.set_cons_zero, List.set_cons_succ]
      refine st_to (v := (.bool true)) (some 16) rfl rfl (ex_mv rfl rfl) ?_
      simp only [Act.put, List.setIfInBounds_toArray, List.set_cons_zero, List.set_cons_succ]
      refine st_to (v := (.pointer (some ⟨b1, 1, none⟩))) (some 17) rfl rfl (ex_fa (p := (.pointer (some ⟨b1, 0, none⟩))) rfl rfl (fa49_1 _ _)) ?_
      simp only [Act.put, List.setIfInBounds_toArray, List.set_cons_zero, List.set_cons_succ]
      refine st_to (v := (.int .i64 x.id)) (some 18) rfl rfl (ex_load (p := (.pointer (some ⟨b1, 1, none⟩))) rfl rfl (ld3 (at_cell k1 h.c1))) ?_
      simp only [Act.put, List.setIfInBounds_toArray, List.set_cons_zero, List.set_cons_succ]
      refine st_to (v := (.pointer (some ⟨b2, 1, none⟩))) (some 19) rfl rfl (ex_fa (p := (.pointer (some ⟨b2, 0, none⟩))) rfl rfl (fa49_1 _ _)) ?_
      simp only [Act.put, List.setIfInBounds_toArray, List.set_cons_zero, List.set_cons_succ]
      refine st_to (v := (.int .i64 y.id)) (some 20) rfl rfl (ex_load (p := (.pointer (some ⟨b2, 1, none⟩))) rfl rfl (ld3 (at_cell k2 h'.c1))) ?_
      simp only [Act.put, List.setIfInBounds_toArray, List.set_cons_zero, List.set_cons_succ]
      refine st_to (v := (.bool true)) (some 21) rfl rfl (ex_bin (u := (.int .i64 x.id)) (r := (.int .i64 y.id)) rfl rfl rfl (eg3 _ _ _ _ _ _) (lss3 _ (decide_eq_true e3))) ?_
      simp only [Act.put, List.setIfInBounds_toArray, List.set_cons_zero, List.set_cons_succ]
      refine st_to (v := (.bool true)) (some 22) rfl rfl (ex_pkT rfl rfl rfl) ?_
      simp only [Act.put, List.setIfInBounds_toArray, List.set_cons_zero, List.set_cons_succ]
      refine st_to (v := (.bool true)) (some 23) rfl rfl (ex_pkF rfl rfl rfl) ?_
      simp only [Act.put, List.setIfInBounds_toArray, List.set_cons_zero, List.set_cons_succ]
      refine st_to (v := (.bool true)) (some 4) rfl rfl (ex_asg rfl rfl) ?_
      simp only [Act.put, List.setIfInBounds_toArray, List.set_cons_zero, List.set_cons_succ]
      refine st_end ?_
      subst hQ
      refine wp_ret ?_
      refine bodyPost_ret (results_tmp Try.results55 _ _ _) rfl ⟨?_, E⟩
      show Ending.returned (.bool true) = _
      rw [decide_eq_true (by omega)]

    · skip
      have E : Below w.heap.size w w := Below.refl _ _
      go_enter Try.func55, Try.ntmps55
      refine wp_seq ?_
      refine wl_in ?_
      refine wl_cap fun Q hQ => ?_
      refine st_new (fun b => .pointer (some ⟨b, 0, none⟩)) (some 2) rfl rfl (ex_box rfl rfl) ?_
      intro b1 W1 k1 g1 B
      simp only [Act.put, List.setIfInBounds_toArray, List.set_cons_zero, List.set_cons_succ]
      have ge_b1 := Nat.le_trans E.size g1
      replace E := below_next E B
      clear B
      refine st_new (fun b => .pointer (some ⟨b, 0, none⟩)) (some 3) rfl rfl (ex_box rfl rfl) ?_
      intro b2 W2 k2 g2 B
      simp only [Act.put, List.setIfInBounds_toArray, List.set_cons_zero, List.set_cons_succ]
      have ne_b2_b1 : b2 ≠ b1 := fun e => by have := lt_of k1; omega
      have ge_b2 := Nat.le_trans E.size g2
      replace E := below_next E B
      replace k1 := keep B k1
      clear B
      refine st_to (v := (.bool false)) (some 4) rfl rfl (ex_asg rfl rfl) ?_
      simp only [Act.put, List.setIfInBounds_toArray, List.set_cons_zero, List.set_cons_succ]
      refine st_end ?_
      subst hQ
      refine wp_seq ?_
      refine wl_in ?_
      refine wl_cap fun Q hQ => ?_
      refine st_to (v := (.pointer (some ⟨b1, 0, none⟩))) (some 5) rfl rfl (ex_fa (p := (.pointer (some ⟨b1, 0, none⟩))) rfl rfl (fa49_0 _ _)) ?_
      simp only [Act.put, List.setIfInBounds_toArray, List.set_cons_zero, List.set_cons_succ]
      refine st_to (v := (.int .i64 x.by_)) (some 6) rfl rfl (ex_load (p := (.pointer (some ⟨b1, 0, none⟩))) rfl rfl (ld3 (at_cell k1 h.c0))) ?_
      simp only [Act.put, List.setIfInBounds_toArray, List.set_cons_zero, List.set_cons_succ]
      refine st_to (v := (.pointer (some ⟨b2, 0, none⟩))) (some 7) rfl rfl (ex_fa (p := (.pointer (some ⟨b2, 0, none⟩))) rfl rfl (fa49_0 _ _)) ?_
      simp only [Act.put, List.setIfInBounds_toArray, List.set_cons_zero, List.set_cons_succ]
      refine st_to (v := (.int .i64 y.by_)) (some 8) rfl rfl (ex_load (p := (.pointer (some ⟨b2, 0, none⟩))) rfl rfl (ld3 (at_cell k2 h'.c0))) ?_
      simp only [Act.put, List.setIfInBounds_toArray, List.set_cons_zero, List.set_cons_succ]
      refine st_to (v := (.bool false)) (some 9) rfl rfl (ex_bin (u := (.int .i64 x.by_)) (r := (.int .i64 y.by_)) rfl rfl rfl (eg3 _ _ _ _ _ _) (lss3 _ (decide_eq_false e1))) ?_
      simp only [Act.put, List.setIfInBounds_toArray, List.set_cons_zero, List.set_cons_succ]
      refine st_to (v := (.bool false)) (some 10) rfl rfl (ex_mv rfl rfl) ?_
      simp only [Act.put, List.setIfInBounds_toArray, List.set_cons_zero, List.set_cons_succ]
      refine st_to (v := (.pointer (some ⟨b1, 0, none⟩))) (some 11) rfl rfl (ex_fa (p := (.pointer (some ⟨b1, 0, none⟩))) rfl rfl (fa49_0 _ _)) ?_
      simp only [Act.put, List.setIfInBounds_toArray, List.set_cons_zero, List.set_cons_succ]
      refine st_to (v := (.int .i64 x.by_)) (some 12) rfl rfl (ex_load (p := (.pointer (some ⟨b1, 0, none⟩))) rfl rfl (ld3 (at_cell k1 h.c0))) ?_
      simp only [Act.put, List.setIfInBounds_toArray, List.set_cons_zero, List.set_cons_succ]
      refine st_to (v := (.pointer (some ⟨b2, 0, none⟩))) (some 13) rfl rfl (ex_fa (p := (.pointer (some ⟨b2, 0, none⟩))) rfl rfl (fa49_0 _ _)) ?_
      simp only [Act.put, List.setIfInBounds_toArray, List.set_cons_zero, List.set_cons_succ]
      refine st_to (v := (.int .i64 y.by_)) (some 14) rfl rfl (ex_load (p := (.pointer (some ⟨b2, 0, none⟩))) rfl rfl (ld3 (at_cell k2 h'.c0))) ?_
      simp only [Act.put, List.setIfInBounds_toArray, List.set_cons_zero, List.set_cons_succ]
      refine st_to (v := (.bool true)) (some 15) rfl rfl (ex_bin (u := (.int .i64 x.by_)) (r := (.int .i64 y.by_)) rfl rfl rfl (eg3 _ _ _ _ _ _) (eql3 _ (decide_eq_true e2))) ?_
      simp only [Act.put, List.setIfInBounds_toArray, List.set_cons_zero, List.set_cons_succ]
      refine st_to (v := (.bool true)) (some 16) rfl rfl (ex_mv rfl rfl) ?_
      simp only [Act.put, List.setIfInBounds_toArray, List.set_cons_zero, List.set_cons_succ]
      refine st_to (v := (.pointer (some ⟨b1, 1, none⟩))) (some 17) rfl rfl (ex_fa (p := (.pointer (some ⟨b1, 0, none⟩))) rfl rfl (fa49_1 _ _)) ?_
      simp only [Act.put, List.setIfInBounds_toArray, List.set_cons_zero, List.set_cons_succ]
      refine st_to (v := (.int .i64 x.id)) (some 18) rfl rfl (ex_load (p := (.pointer (some ⟨b1, 1, none⟩))) rfl rfl (ld3 (at_cell k1 h.c1))) ?_
      simp only [Act.put, List.setIfInBounds_toArray, List.set_cons_zero, List.set_cons_succ]
      refine st_to (v := (.pointer (some ⟨b2, 1, none⟩))) (some 19) rfl rfl (ex_fa (p := (.pointer (some ⟨b2, 0, none⟩))) rfl rfl (fa49_1 _ _)) ?_
      simp only [Act.put, List.setIfInBounds_toArray, List.set_cons_zero, List.set_cons_succ]
      refine st_to (v := (.int .i64 y.id)) (some 20) rfl rfl (ex_load (p := (.pointer (some ⟨b2, 1, none⟩))) rfl rfl (ld3 (at_cell k2 h'.c1))) ?_
      simp only [Act.put, List.setIfInBounds_toArray, List.set_cons_zero, List.set_cons_succ]
      refine st_to (v := (.bool false)) (some 21) rfl rfl (ex_bin (u := (.int .i64 x.id)) (r := (.int .i64 y.id)) rfl rfl rfl (eg3 _ _ _ _ _ _) (lss3 _ (decide_eq_false e3))) ?_
      simp only [Act.put, List.setIfInBounds_toArray, List.set_cons_zero, List.set_cons_succ]
      refine st_to (v := (.bool false)) (some 22) rfl rfl (ex_pkT rfl rfl rfl) ?_
      simp only [Act.put, List.setIfInBounds_toArray, List.set_cons_zero, List.set_cons_succ]
      refine st_to (v := (.bool false)) (some 23) rfl rfl (ex_pkF rfl rfl rfl) ?_
      simp only [Act.put, List.setIfInBounds_toArray, List.set_cons_zero, List.set_cons_succ]
      refine st_to (v := (.bool false)) (some 4) rfl rfl (ex_asg rfl rfl) ?_
      simp only [Act.put, List.setIfInBounds_toArray, List.set_cons_zero, List.set_cons_succ]
      refine st_end ?_
      subst hQ
      refine wp_ret ?_
      refine bodyPost_ret (results_tmp Try.results55 _ _ _) rfl ⟨?_, E⟩
      show Ending.returned (.bool false) = _
      rw [decide_eq_false (by omega)]

  · skip
    have E : Below w.heap.size w w := Below.refl _ _
    go_enter Try.func55, Try.ntmps55
    refine wp_seq ?_
    refine wl_in ?_
    refine wl_cap fun Q hQ => ?_
    refine st_new (fun b => .pointer (some ⟨b, 0, none⟩)) (some 2) rfl rfl (ex_box rfl rfl) ?_
    intro b1 W1 k1 g1 B
    simp only [Act.put, List.setIfInBounds_toArray, List.set_cons_zero, List.set_cons_succ]
    have ge_b1 := Nat.le_trans E.size g1
    replace E := below_next E B
    clear B
    refine st_new (fun b => .pointer (some ⟨b, 0, none⟩)) (some 3) rfl rfl (ex_box rfl rfl) ?_
    intro b2 W2 k2 g2 B
    simp only [Act.put, List.setIfInBounds_toArray, List.set_cons_zero, List.set_cons_succ]
    have ne_b2_b1 : b2 ≠ b1 := fun e => by have := lt_of k1; omega
    have ge_b2 := Nat.le_trans E.size g2
    replace E := below_next E B
    replace k1 := keep B k1
    clear B
    refine st_to (v := (.bool false)) (some 4) rfl rfl (ex_asg rfl rfl) ?_
    simp only [Act.put, List.setIfInBounds_toArray, List.set_cons_zero, List.set_cons_succ]
    refine st_end ?_
    subst hQ
    refine wp_seq ?_
    refine wl_in ?_
    refine wl_cap fun Q hQ => ?_
    refine st_to (v := (.pointer (some ⟨b1, 0, none⟩))) (some 5) rfl rfl (ex_fa (p := (.pointer (some ⟨b1, 0, none⟩))) rfl rfl (fa49_0 _ _)) ?_
    simp only [Act.put, List.setIfInBounds_toArray, List.set_cons_zero, List.set_cons_succ]
    refine st_to (v := (.int .i64 x.by_)) (some 6) rfl rfl (ex_load (p := (.pointer (some ⟨b1, 0, none⟩))) rfl rfl (ld3 (at_cell k1 h.c0))) ?_
    simp only [Act.put, List.setIfInBounds_toArray, List.set_cons_zero, List.set_cons_succ]
    refine st_to (v := (.pointer (some ⟨b2, 0, none⟩))) (some 7) rfl rfl (ex_fa (p := (.pointer (some ⟨b2, 0, none⟩))) rfl rfl (fa49_0 _ _)) ?_
    simp only [Act.put, List.setIfInBounds_toArray, List.set_cons_zero, List.set_cons_succ]
    refine st_to (v := (.int .i64 y.by_)) (some 8) rfl rfl (ex_load (p := (.pointer (some ⟨b2, 0, none⟩))) rfl rfl (ld3 (at_cell k2 h'.c0))) ?_
    simp only [Act.put, List.setIfInBounds_toArray, List.set_cons_zero, List.set_cons_succ]
    refine st_to (v := (.bool false)) (some 9) rfl rfl (ex_bin (u := (.int .i64 x.by_)) (r := (.int .i64 y.by_)) rfl rfl rfl (eg3 _ _ _ _ _ _) (lss3 _ (decide_eq_false e1))) ?_
    simp only [Act.put, List.setIfInBounds_toArray, List.set_cons_zero, List.set_cons_succ]
    refine st_to (v := (.bool false)) (some 10) rfl rfl (ex_mv rfl rfl) ?_
    simp only [Act.put, List.setIfInBounds_toArray, List.set_cons_zero, List.set_cons_succ]
    refine st_to (v := (.pointer (some ⟨b1, 0, none⟩))) (some 11) rfl rfl (ex_fa (p := (.pointer (some ⟨b1, 0, none⟩))) rfl rfl (fa49_0 _ _)) ?_
    simp only [Act.put, List.setIfInBounds_toArray, List.set_cons_zero, List.set_cons_succ]
    refine st_to (v := (.int .i64 x.by_)) (some 12) rfl rfl (ex_load (p := (.pointer (some ⟨b1, 0, none⟩))) rfl rfl (ld3 (at_cell k1 h.c0))) ?_
    simp only [Act.put, List.setIfInBounds_toArray, List.set_cons_zero, List.set_cons_succ]
    refine st_to (v := (.pointer (some ⟨b2, 0, none⟩))) (some 13) rfl rfl (ex_fa (p := (.pointer (some ⟨b2, 0, none⟩))) rfl rfl (fa49_0 _ _)) ?_
    simp only [Act.put, List.setIfInBounds_toArray, List.set_cons_zero, List.set_cons_succ]
    refine st_to (v := (.int .i64 y.by_)) (some 14) rfl rfl (ex_load (p := (.pointer (some ⟨b2, 0, none⟩))) rfl rfl (ld3 (at_cell k2 h'.c0))) ?_
    simp only [Act.put, List.setIfInBounds_toArray, List.set_cons_zero, List.set_cons_succ]
    refine st_to (v := (.bool false)) (some 15) rfl rfl (ex_bin (u := (.int .i64 x.by_)) (r := (.int .i64 y.by_)) rfl rfl rfl (eg3 _ _ _ _ _ _) (eql3 _ (decide_eq_false e2))) ?_
    simp only [Act.put, List.setIfInBounds_toArray, List.set_cons_zero, List.set_cons_succ]
    refine st_to (v := (.bool false)) (some 16) rfl rfl (ex_mv rfl rfl) ?_
    simp only [Act.put, List.setIfInBounds_toArray, List.set_cons_zero, List.set_cons_succ]
    refine st_no (some 17) rfl rfl ?_
    simp only [Act.put, List.setIfInBounds_toArray, List.set_cons_zero, List.set_cons_succ]
    refine st_no (some 18) rfl rfl ?_
    simp only [Act.put, List.setIfInBounds_toArray, List.set_cons_zero, List.set_cons_succ]
    refine st_no (some 19) rfl rfl ?_
    simp only [Act.put, List.setIfInBounds_toArray, List.set_cons_zero, List.set_cons_succ]
    refine st_no (some 20) rfl rfl ?_
    simp only [Act.put, List.setIfInBounds_toArray, List.set_cons_zero, List.set_cons_succ]
    refine st_no (some 21) rfl rfl ?_
    simp only [Act.put, List.setIfInBounds_toArray, List.set_cons_zero, List.set_cons_succ]
    refine st_to (v := (.bool false)) (some 22) rfl rfl (ex_pkF rfl rfl rfl) ?_
    simp only [Act.put, List.setIfInBounds_toArray, List.set_cons_zero, List.set_cons_succ]
    refine st_to (v := (.bool false)) (some 23) rfl rfl (ex_pkF rfl rfl rfl) ?_
    simp only [Act.put, List.setIfInBounds_toArray, List.set_cons_zero, List.set_cons_succ]
    refine st_to (v := (.bool false)) (some 4) rfl rfl (ex_asg rfl rfl) ?_
    simp only [Act.put, List.setIfInBounds_toArray, List.set_cons_zero, List.set_cons_succ]
    refine st_end ?_
    subst hQ
    refine wp_ret ?_
    refine bodyPost_ret (results_tmp Try.results55 _ _ _) rfl ⟨?_, E⟩
    show Ending.returned (.bool false) = _
    rw [decide_eq_false (by omega)]

theorem back_any {SD v : Array Value} {x y d : Int} (w : World) (hS : IsS SD x y d v) :
    Calls Try.prog 48 #[.agg SD] w fun e w' => e = .returned (.agg (pth y 0 false 0 0 v)) ∧ Below w.heap.size w w' := by
  have E : Below w.heap.size w w := Below.refl _ _
  go_enter Try.func48, Try.ntmps48
  refine wp_seq ?_
  refine wl_in ?_
  refine wl_cap fun Q hQ => ?_
  refine st_new (fun b => .pointer (some ⟨b, 0, none⟩)) (some 1) rfl rfl (ex_box rfl rfl) ?_
  intro b1 W1 k1 g1 B
  simp only [Act.put, List.setIfInBounds_toArray, List.set_cons_zero, List.set_cons_succ]
  have ge_b1 := Nat.le_trans E.size g1
  replace E := below_next E B
  clear B
  refine st_new (fun b => .pointer (some ⟨b, 0, none⟩)) (some 2) rfl rfl (ex_alloc rfl zero66) ?_
  intro b2 W2 k2 g2 B
  simp only [Act.put, List.setIfInBounds_toArray, List.set_cons_zero, List.set_cons_succ]
  have ne_b2_b1 : b2 ≠ b1 := fun e => by have := lt_of k1; omega
  have ge_b2 := Nat.le_trans E.size g2
  replace E := below_next E B
  replace k1 := keep B k1
  clear B
  refine st_end ?_
  subst hQ
  refine wp_seq ?_
  refine wl_in ?_
  refine wl_cap fun Q hQ => ?_
  refine st_to (v := (.pointer (some ⟨b1, 1, none⟩))) (some 3) rfl rfl (ex_fa (p := (.pointer (some ⟨b1, 0, none⟩))) rfl rfl (fa59_1 _ _)) ?_
  simp only [Act.put, List.setIfInBounds_toArray, List.set_cons_zero, List.set_cons_succ]
  refine st_to (v := (.int .i64 y)) (some 4) rfl rfl (ex_load (p := (.pointer (some ⟨b1, 1, none⟩))) rfl rfl (ld3 (at_cell k1 hS.c1))) ?_
  simp only [Act.put, List.setIfInBounds_toArray, List.set_cons_zero, List.set_cons_succ]
  refine st_to (v := (.pointer (some ⟨b1, 3, none⟩))) (some 5) rfl rfl (ex_fa (p := (.pointer (some ⟨b1, 0, none⟩))) rfl rfl (fa59_3 _ _)) ?_
  simp only [Act.put, List.setIfInBounds_toArray, List.set_cons_zero, List.set_cons_succ]
  refine st_to (v := (.agg v)) (some 6) rfl rfl (ex_load (p := (.pointer (some ⟨b1, 3, none⟩))) rfl rfl (hS.ldp k1)) ?_
  simp only [Act.put, List.setIfInBounds_toArray, List.set_cons_zero, List.set_cons_succ]
  refine st_to (v := (.agg (pth y 0 false 0 0 v))) (some 7) rfl rfl (ex_build2 (v1 := (.int .i64 y)) (v2 := (.agg v)) rfl rfl rfl (b66_05 _ _ hS.hs _)) ?_
  simp only [Act.put, List.setIfInBounds_toArray, List.set_cons_zero, List.set_cons_succ]
  obtain ⟨W3, hst, kn, K⟩ := put_all (D := (pth y 0 false 0 0 v)) k2 (((show ((pth 0 0 false 0 0 Z32) : Array Value).size = 37 from rfl)).trans ((pth_size hS.hs)).symm) (inf66.trans (congrArg some ((pth_size hS.hs)).symm)) (pth_one hS.vone)
  refine st_sk rfl rfl (ex_store rfl rfl rfl hst) ?_
  replace E := below_put E ge_b2 K
  replace k1 := keepK K k1 (fun e => ne_tag k1 k2 (by decide) e)
  replace k2 := kn
  clear kn K hst
  refine st_end ?_
  subst hQ
  refine wp_ret ?_
  refine bodyPost_ret (results_cell_row Try.results48 _ _ b2 _ _ _ _ rfl k2 Try.underlying66 rfl (inf66.trans (congrArg some ((pth_size hS.hs)).symm))) rfl ⟨rfl, E⟩

set_option maxHeartbeats 2000000 in
theorem own_any {SD v : Array Value} {x y d : Int} (hS : IsS SD x y d v) (n : Int) (w : World) :
    Calls Try.prog 29 #[.agg SD, .int .i64 n] w fun e w' => ∃ g, e = .returned (.agg #[.int .i64 n, .slice (some ⟨g, 0, none⟩) 2 2]) ∧ w'.heap[g]? = some (.cells (pth x 0 false 0 d Z32 ++ pth y 0 false 0 0 v) 66) ∧ w.heap.size ≤ g ∧ Below w.heap.size w w' := by
  have E : Below w.heap.size w w := Below.refl _ _
  go_enter Try.func29, Try.ntmps29
  refine wp_seq ?_
  refine wl_in ?_
  refine wl_cap fun Q hQ => ?_
  refine st_new (fun b => .pointer (some ⟨b, 0, none⟩)) (some 2) rfl rfl (ex_box rfl rfl) ?_
  intro b1 W1 k1 g1 B
  simp only [Act.put, List.setIfInBounds_toArray, List.set_cons_zero, List.set_cons_succ]
  have ge_b1 := Nat.le_trans E.size g1
  replace E := below_next E B
  clear B
  refine st_new (fun b => .pointer (some ⟨b, 0, none⟩)) (some 4) rfl rfl (ex_alloc rfl zero46) ?_
  intro b2 W2 k2 g2 B
  simp only [Act.put, List.setIfInBounds_toArray, List.set_cons_zero, List.set_cons_succ]
  have ne_b2_b1 : b2 ≠ b1 := fun e => by have := lt_of k1; omega
  have ge_b2 := Nat.le_trans E.size g2
  replace E := below_next E B
  replace k1 := keep B k1
  clear B
  refine st_end ?_
  subst hQ
  refine wp_seq ?_
  obtain ⟨W3, hwd⟩ : ∃ wd, W2.drew = wd := ⟨_, rfl⟩
  refine wp_region_held (S := fun W => Kept (· = b2) W3 W) (by kernel_rfl) ?_
  show wpAnyH _ _ _ _ _ _ _ _ W2.drew
  rw [hwd]
  refine capQ fun Q hQ => ?_
  have hQP : ∀ c (a : Act) (d : Nat) v w, Q (.panic c) (a.put (some d) v) w → Q (.panic c) a w := by
    subst hQ
    exact fun _ _ _ _ _ h => h
  have BD : Below W2.heap.size W2 W3 := by rw [← hwd]; exact below_drew (Below.refl _ _)
  clear hwd
  replace E := below_next E BD
  replace k1 := keep BD k1
  replace k2 := keep BD k2
  clear BD
  have S : Kept (· = b2) W3 W3 := Kept.refl _ _
  have d_k1 := k1
  have d_k2 := k2
  refine ah_take (v := (.int .i64 n)) (i := 0) (some 5) rfl rfl (by kernel_rfl) (by kernel_rfl) (by kernel_rfl) rfl (fun W hK => ex_mv rfl rfl) S (fun c a w h => hQP c a _ _ w h) ?_
  simp only [Act.put, List.setIfInBounds_toArray, List.set_cons_zero, List.set_cons_succ]
  refine ah_take (v := (.pointer (some ⟨b1, 0, none⟩))) (i := 1) (some 6) rfl rfl (by kernel_rfl) (by kernel_rfl) (by kernel_rfl) rfl (fun W hK => ex_fa (p := (.pointer (some ⟨b1, 0, none⟩))) rfl rfl (fa59_0 _ _)) S (fun c a w h => hQP c a _ _ w h) ?_
  simp only [Act.put, List.setIfInBounds_toArray, List.set_cons_zero, List.set_cons_succ]
  refine ah_take (v := (.int .i64 x)) (i := 2) (some 7) rfl rfl (by kernel_rfl) (by kernel_rfl) (by kernel_rfl) rfl (fun W hK => ex_load (p := (.pointer (some ⟨b1, 0, none⟩))) rfl rfl (ld3 (at_cell (keepK hK d_k1 (fun e => ne_tag d_k1 d_k2 (by decide) e)) hS.c0))) S (fun c a w h => hQP c a _ _ w h) ?_
  simp only [Act.put, List.setIfInBounds_toArray, List.set_cons_zero, List.set_cons_succ]
  refine ah_take (v := (.pointer (some ⟨b1, 2, none⟩))) (i := 3) (some 8) rfl rfl (by kernel_rfl) (by kernel_rfl) (by kernel_rfl) rfl (fun W hK => ex_fa (p := (.pointer (some ⟨b1, 0, none⟩))) rfl rfl (fa59_2 _ _)) S (fun c a w h => hQP c a _ _ w h) ?_
  simp only [Act.put, List.setIfInBounds_toArray, List.set_cons_zero, List.set_cons_succ]
  refine ah_take (v := (.int .i64 d)) (i := 4) (some 9) rfl rfl (by kernel_rfl) (by kernel_rfl) (by kernel_rfl) rfl (fun W hK => ex_load (p := (.pointer (some ⟨b1, 2, none⟩))) rfl rfl (ld3 (at_cell (keepK hK d_k1 (fun e => ne_tag d_k1 d_k2 (by decide) e)) hS.c2))) S (fun c a w h => hQP c a _ _ w h) ?_
  simp only [Act.put, List.setIfInBounds_toArray, List.set_cons_zero, List.set_cons_succ]
  refine ah_take (v := (.agg (pth x 0 false 0 d Z32))) (i := 5) (some 10) rfl rfl (by kernel_rfl) (by kernel_rfl) (by kernel_rfl) rfl (fun W hK => ex_build2 (v1 := (.int .i64 x)) (v2 := (.int .i64 d)) rfl rfl rfl (b66_04 _ _ _)) S (fun c a w h => hQP c a _ _ w h) ?_
  simp only [Act.put, List.setIfInBounds_toArray, List.set_cons_zero, List.set_cons_succ]
  refine ah_take (v := (.agg SD)) (i := 6) (some 11) rfl rfl (by kernel_rfl) (by kernel_rfl) (by kernel_rfl) rfl (fun W hK => ex_load (p := (.pointer (some ⟨b1, 0, none⟩))) rfl rfl (ld_all (keepK hK d_k1 (fun e => ne_tag d_k1 d_k2 (by decide) e)) Try.underlying59 rfl (inf59.trans (congrArg some (hS.size).symm)))) S (fun c a w h => hQP c a _ _ w h) ?_
  simp only [Act.put, List.setIfInBounds_toArray, List.set_cons_zero, List.set_cons_succ]
  refine ah_or1 (i := 7) (by kernel_rfl) ?_
  refine nx_call (some 12) rfl rfl rfl (back_any W3 hS) (ex_call (f := 48) (vs := [(.agg SD)]) rfl (cf48 _) rfl) ?_
  rintro e W4 ⟨rfl, B⟩
  refine ⟨_, rfl, S.next B, ?_⟩
  simp only [Act.put, List.setIfInBounds_toArray, List.set_cons_zero, List.set_cons_succ]
  replace E := below_next E B
  replace k1 := keep B k1
  replace k2 := keep B k2
  replace S := S.next B
  refine ah_or1 (i := 8) (by kernel_rfl) ?_
  refine nx_new (fun b => .slice (some ⟨b, 0, none⟩) 2 2) (some 13) rfl rfl rfl (ex_bsl2 (u := (.agg (pth x 0 false 0 d Z32))) (r := (.agg (pth y 0 false 0 0 v))) rfl rfl rfl (bs44_2 _ (pth_size Z32_size) _ (pth_size hS.hs) _)) ?_
  intro bt13 W5 kt13 gt13 B
  refine ⟨S.next B, ?_⟩
  simp only [Act.put, List.setIfInBounds_toArray, List.set_cons_zero, List.set_cons_succ]
  have gd_bt13 := Nat.le_trans S.size gt13
  have ge_bt13 := Nat.le_trans E.size gt13
  replace E := below_next E B
  replace k1 := keep B k1
  replace k2 := keep B k2
  replace S := S.next B
  clear B
  refine ah_or1 (i := 9) (by kernel_rfl) ?_
  refine nx_call (some 14) rfl rfl rfl (output_any _ _ _ _ W5) (ex_call (f := 39) (vs := [(.int .i64 n), (.slice (some ⟨bt13, 0, none⟩) 2 2)]) rfl (cf39 _) rfl) ?_
  rintro e W6 ⟨rfl, B⟩
  refine ⟨_, rfl, S.next B, ?_⟩
  simp only [Act.put, List.setIfInBounds_toArray, List.set_cons_zero, List.set_cons_succ]
  replace E := below_next E B
  replace k1 := keep B k1
  replace k2 := keep B k2
  replace S := S.next B
  replace kt13 := keep B kt13
  refine ah_or1 (i := 10) (by kernel_rfl) ?_
  obtain ⟨W7, hst, kn, K⟩ := put_all (D := #[(.int .i64 n), (.slice (some ⟨bt13, 0, none⟩) 2 2)]) k2 rfl inf46 (by kernel_rfl)
  refine nx_sk rfl rfl rfl (ex_store rfl rfl rfl hst) (S.putX K) ?_
  replace E := below_put E ge_b2 K
  replace k1 := keepK K k1 (fun e => ne_tag k1 k2 (by decide) e)
  replace S := S.putX K
  replace kt13 := keepK K kt13 (fun e => ne_tag kt13 k2 (by decide) e)
  replace k2 := kn
  clear kn K hst
  refine ah_done (by kernel_rfl) ?_
  clear hQP
  subst hQ
  clear S d_k1 d_k2 
  refine wp_ret ?_
  refine bodyPost_ret (results_cell_row Try.results29 _ _ b2 _ _ _ _ rfl k2 Try.underlying46 rfl inf46) rfl ⟨bt13, rfl, kt13, ge_bt13, E⟩

set_option maxHeartbeats 2000000 in
theorem oth_any {SD v : Array Value} {x y d : Int} (hS : IsS SD x y d v) (n : Int) (w : World) :
    Calls Try.prog 30 #[.agg SD, .int .i64 n] w fun e w' => ∃ g, e = .returned (.agg #[.int .i64 n, .slice (some ⟨g, 0, none⟩) 1 1]) ∧ w'.heap[g]? = some (.cells (pth y 0 false 0 0 Z32) 66) ∧ w.heap.size ≤ g ∧ Below w.heap.size w w' := by
  have E : Below w.heap.size w w := Below.refl _ _
  go_enter Try.func30, Try.ntmps30
  refine wp_seq ?_
  refine wl_in ?_
  refine wl_cap fun Q hQ => ?_
  refine st_new (fun b => .pointer (some ⟨b, 0, none⟩)) (some 2) rfl rfl (ex_box rfl rfl) ?_
  intro b1 W1 k1 g1 B
  simp only [Act.put, List.setIfInBounds_toArray, List.set_cons_zero, List.set_cons_succ]
  have ge_b1 := Nat.le_trans E.size g1
  replace E := below_next E B
  clear B
  refine st_new (fun b => .pointer (some ⟨b, 0, none⟩)) (some 4) rfl rfl (ex_alloc rfl zero46) ?_
  intro b2 W2 k2 g2 B
  simp only [Act.put, List.setIfInBounds_toArray, List.set_cons_zero, List.set_cons_succ]
  have ne_b2_b1 : b2 ≠ b1 := fun e => by have := lt_of k1; omega
  have ge_b2 := Nat.le_trans E.size g2
  replace E := below_next E B
  replace k1 := keep B k1
  clear B
  refine st_end ?_
  subst hQ
  refine wp_seq ?_
  refine wl_in ?_
  refine wl_cap fun Q hQ => ?_
  refine st_to (v := (.int .i64 n)) (some 5) rfl rfl (ex_mv rfl rfl) ?_
  simp only [Act.put, List.setIfInBounds_toArray, List.set_cons_zero, List.set_cons_succ]
  refine st_to (v := (.pointer (some ⟨b1, 1, none⟩))) (some 6) rfl rfl (ex_fa (p := (.pointer (some ⟨b1, 0, none⟩))) rfl rfl (fa59_1 _ _)) ?_
  simp only [Act.put, List.setIfInBounds_toArray, List.set_cons_zero, List.set_cons_succ]
  refine st_to (v := (.int .i64 y)) (some 7) rfl rfl (ex_load (p := (.pointer (some ⟨b1, 1, none⟩))) rfl rfl (ld3 (at_cell k1 hS.c1))) ?_
  simp only [Act.put, List.setIfInBounds_toArray, List.set_cons_zero, List.set_cons_succ]
  refine st_to (v := (.agg (pth y 0 false 0 0 Z32))) (some 8) rfl rfl (ex_build1 (v1 := (.int .i64 y)) rfl rfl (b66_0 _ _)) ?_
  simp only [Act.put, List.setIfInBounds_toArray, List.set_cons_zero, List.set_cons_succ]
  refine st_new (fun b => .slice (some ⟨b, 0, none⟩) 1 1) (some 9) rfl rfl (ex_bsl1 (u := (.agg (pth y 0 false 0 0 Z32))) rfl rfl (bs44_1 _ (pth_size Z32_size) _)) ?_
  intro b3 W3 k3 g3 B
  simp only [Act.put, List.setIfInBounds_toArray, List.set_cons_zero, List.set_cons_succ]
  have ne_b3_b1 : b3 ≠ b1 := fun e => by have := lt_of k1; omega
  have ne_b3_b2 : b3 ≠ b2 := fun e => by have := lt_of k2; omega
  have ge_b3 := Nat.le_trans E.size g3
  replace E := below_next E B
  replace k1 := keep B k1
  replace k2 := keep B k2
  clear B
  refine st_call (some 10) rfl rfl (output_any _ _ _ _ W3) (ex_call (f := 39) (vs := [(.int .i64 n), (.slice (some ⟨b3, 0, none⟩) 1 1)]) rfl (cf39 _) rfl) ?_
  rintro e W4 ⟨rfl, B⟩
  refine ⟨_, rfl, ?_⟩
  simp only [Act.put, List.setIfInBounds_toArray, List.set_cons_zero, List.set_cons_succ]
  replace E := below_next E B
  replace k1 := keep B k1
  replace k2 := keep B k2
  replace k3 := keep B k3
  obtain ⟨W5, hst, kn, K⟩ := put_all (D := #[(.int .i64 n), (.slice (some ⟨b3, 0, none⟩) 1 1)]) k2 rfl inf46 (by kernel_rfl)
  refine st_sk rfl rfl (ex_store rfl rfl rfl hst) ?_
  replace E := below_put E ge_b2 K
  replace k1 := keepK K k1 (fun e => ne_tag k1 k2 (by decide) e)
  replace k3 := keepK K k3 (fun e => ne_tag k3 k2 (by decide) e)
  replace k2 := kn
  clear kn K hst
  refine st_end ?_
  subst hQ
  refine wp_ret ?_
  refine bodyPost_ret (results_cell_row Try.results30 _ _ b2 _ _ _ _ rfl k2 Try.underlying46 rfl inf46) rfl ⟨b3, rfl, k3, ge_b3, E⟩

set_option maxHeartbeats 2000000 in
theorem htlc_mine {SD v H : Array Value} {x y d : Int} {q : HV} (hS : IsS SD x y d v) (hH : IsH H q) (e : q.by_ = x) (w : World) :
    Calls Try.prog 31 #[.agg SD, .agg H] w fun e w' => ∃ g, e = .returned (.agg #[.int .i64 q.am, .slice (some ⟨g, 0, none⟩) 3 3]) ∧ w'.heap[g]? = some (.cells (pth y 0 false 0 0 q.hash ++ pth x 0 false q.ex d Z32 ++ pth y 0 false 0 0 v) 66) ∧ w.heap.size ≤ g ∧ Below w.heap.size w w' := by
  have E : Below w.heap.size w w := Below.refl _ _
  go_enter Try.func31, Try.ntmps31
  refine wp_seq ?_
  refine wl_in ?_
  refine wl_cap fun Q hQ => ?_
  refine st_new (fun b => .pointer (some ⟨b, 0, none⟩)) (some 2) rfl rfl (ex_box rfl rfl) ?_
  intro b1 W1 k1 g1 B
  simp only [Act.put, List.setIfInBounds_toArray, List.set_cons_zero, List.set_cons_succ]
  have ge_b1 := Nat.le_trans E.size g1
  replace E := below_next E B
  clear B
  refine st_new (fun b => .pointer (some ⟨b, 0, none⟩)) (some 3) rfl rfl (ex_box rfl rfl) ?_
  intro b2 W2 k2 g2 B
  simp only [Act.put, List.setIfInBounds_toArray, List.set_cons_zero, List.set_cons_succ]
  have ne_b2_b1 : b2 ≠ b1 := fun e => by have := lt_of k1; omega
  have ge_b2 := Nat.le_trans E.size g2
  replace E := below_next E B
  replace k1 := keep B k1
  clear B
  refine st_new (fun b => .pointer (some ⟨b, 0, none⟩)) (some 4) rfl rfl (ex_alloc rfl zero46) ?_
  intro b3 W3 k3 g3 B
  simp only [Act.put, List.setIfInBounds_toArray, List.set_cons_zero, List.set_cons_succ]
  have ne_b3_b1 : b3 ≠ b1 := fun e => by have := lt_of k1; omega
  have ne_b3_b2 : b3 ≠ b2 := fun e => by have := lt_of k2; omega
  have ge_b3 := Nat.le_trans E.size g3
  replace E := below_next E B
  replace k1 := keep B k1
  replace k2 := keep B k2
  clear B
  refine st_end ?_
  subst hQ
  refine wp_seq ?_
  refine wp_seq ?_
  refine wl_in ?_
  refine wl_cap fun Q hQ => ?_
  refine st_to (v := (.pointer (some ⟨b2, 0, none⟩))) (some 5) rfl rfl (ex_fa (p := (.pointer (some ⟨b2, 0, none⟩))) rfl rfl (fa49_0 _ _)) ?_
  simp only [Act.put, List.setIfInBounds_toArray, List.set_cons_zero, List.set_cons_succ]
  refine st_to (v := (.int .i64 q.by_)) (some 6) rfl rfl (ex_load (p := (.pointer (some ⟨b2, 0, none⟩))) rfl rfl (ld3 (at_cell k2 hH.c0))) ?_
  simp only [Act.put, List.setIfInBounds_toArray, List.set_cons_zero, List.set_cons_succ]
  refine st_to (v := (.pointer (some ⟨b1, 0, none⟩))) (some 7) rfl rfl (ex_fa (p := (.pointer (some ⟨b1, 0, none⟩))) rfl rfl (fa59_0 _ _)) ?_
  simp only [Act.put, List.setIfInBounds_toArray, List.set_cons_zero, List.set_cons_succ]
  refine st_to (v := (.int .i64 x)) (some 8) rfl rfl (ex_load (p := (.pointer (some ⟨b1, 0, none⟩))) rfl rfl (ld3 (at_cell k1 hS.c0))) ?_
  simp only [Act.put, List.setIfInBounds_toArray, List.set_cons_zero, List.set_cons_succ]
  refine st_to (v := (.bool true)) (some 9) rfl rfl (ex_bin (u := (.int .i64 q.by_)) (r := (.int .i64 x)) rfl rfl rfl (eg3 _ _ _ _ _ _) (eql3 _ (decide_eq_true e))) ?_
  simp only [Act.put, List.setIfInBounds_toArray, List.set_cons_zero, List.set_cons_succ]
  refine st_end ?_
  subst hQ
  refine wp_cond_true rfl ?_
  refine wp_seq ?_
  obtain ⟨W4, hwd⟩ : ∃ wd, W3.drew = wd := ⟨_, rfl⟩
  refine wp_region_held (S := fun W => Kept (· = b3) W4 W) (by kernel_rfl) ?_
  show wpAnyH _ _ _ _ _ _ _ _ W3.drew
  rw [hwd]
  refine capQ fun Q hQ => ?_
  have hQP : ∀ c (a : Act) (d : Nat) v w, Q (.panic c) (a.put (some d) v) w → Q (.panic c) a w := by
    subst hQ
    exact fun _ _ _ _ _ h => h
  have BD : Below W3.heap.size W3 W4 := by rw [← hwd]; exact below_drew (Below.refl _ _)
  clear hwd
  replace E := below_next E BD
  replace k1 := keep BD k1
  replace k2 := keep BD k2
  replace k3 := keep BD k3
  clear BD
  have S : Kept (· = b3) W4 W4 := Kept.refl _ _
  have d_k1 := k1
  have d_k2 := k2
  have d_k3 := k3
  refine ah_take (v := (.pointer (some ⟨b2, 2, none⟩))) (i := 0) (some 10) rfl rfl (by kernel_rfl) (by kernel_rfl) (by kernel_rfl) rfl (fun W hK => ex_fa (p := (.pointer (some ⟨b2, 0, none⟩))) rfl rfl (fa49_2 _ _)) S (fun c a w h => hQP c a _ _ w h) ?_
  simp only [Act.put, List.setIfInBounds_toArray, List.set_cons_zero, List.set_cons_succ]
  refine ah_take (v := (.int .i64 q.am)) (i := 1) (some 11) rfl rfl (by kernel_rfl) (by kernel_rfl) (by kernel_rfl) rfl (fun W hK => ex_load (p := (.pointer (some ⟨b2, 2, none⟩))) rfl rfl (ld3 (at_cell (keepK hK d_k2 (fun e => ne_tag d_k2 d_k3 (by decide) e)) hH.c2))) S (fun c a w h => hQP c a _ _ w h) ?_
  simp only [Act.put, List.setIfInBounds_toArray, List.set_cons_zero, List.set_cons_succ]
  refine ah_take (v := (.pointer (some ⟨b1, 1, none⟩))) (i := 2) (some 12) rfl rfl (by kernel_rfl) (by kernel_rfl) (by kernel_rfl) rfl (fun W hK => ex_fa (p := (.pointer (some ⟨b1, 0, none⟩))) rfl rfl (fa59_1 _ _)) S (fun c a w h => hQP c a _ _ w h) ?_
  simp only [Act.put, List.setIfInBounds_toArray, List.set_cons_zero, List.set_cons_succ]
  refine ah_take (v := (.int .i64 y)) (i := 3) (some 13) rfl rfl (by kernel_rfl) (by kernel_rfl) (by kernel_rfl) rfl (fun W hK => ex_load (p := (.pointer (some ⟨b1, 1, none⟩))) rfl rfl (ld3 (at_cell (keepK hK d_k1 (fun e => ne_tag d_k1 d_k3 (by decide) e)) hS.c1))) S (fun c a w h => hQP c a _ _ w h) ?_
  simp only [Act.put, List.setIfInBounds_toArray, List.set_cons_zero, List.set_cons_succ]
  refine ah_take (v := (.pointer (some ⟨b2, 3, none⟩))) (i := 4) (some 14) rfl rfl (by kernel_rfl) (by kernel_rfl) (by kernel_rfl) rfl (fun W hK => ex_fa (p := (.pointer (some ⟨b2, 0, none⟩))) rfl rfl (fa49_3 _ _)) S (fun c a w h => hQP c a _ _ w h) ?_
  simp only [Act.put, List.setIfInBounds_toArray, List.set_cons_zero, List.set_cons_succ]
  refine ah_take (v := (.agg q.hash)) (i := 5) (some 15) rfl rfl (by kernel_rfl) (by kernel_rfl) (by kernel_rfl) rfl (fun W hK => ex_load (p := (.pointer (some ⟨b2, 3, none⟩))) rfl rfl (hH.ldp (keepK hK d_k2 (fun e => ne_tag d_k2 d_k3 (by decide) e)))) S (fun c a w h => hQP c a _ _ w h) ?_
  simp only [Act.put, List.setIfInBounds_toArray, List.set_cons_zero, List.set_cons_succ]
  refine ah_take (v := (.agg (pth y 0 false 0 0 q.hash))) (i := 6) (some 16) rfl rfl (by kernel_rfl) (by kernel_rfl) (by kernel_rfl) rfl (fun W hK => ex_build2 (v1 := (.int .i64 y)) (v2 := (.agg q.hash)) rfl rfl rfl (b66_05 _ _ hH.hs _)) S (fun c a w h => hQP c a _ _ w h) ?_
  simp only [Act.put, List.setIfInBounds_toArray, List.set_cons_zero, List.set_cons_succ]
  refine ah_take (v := (.pointer (some ⟨b1, 0, none⟩))) (i := 7) (some 17) rfl rfl (by kernel_rfl) (by kernel_rfl) (by kernel_rfl) rfl (fun W hK => ex_fa (p := (.pointer (some ⟨b1, 0, none⟩))) rfl rfl (fa59_0 _ _)) S (fun c a w h => hQP c a _ _ w h) ?_
  simp only [Act.put, List.setIfInBounds_toArray, List.set_cons_zero, List.set_cons_succ]
  refine ah_take (v := (.int .i64 x)) (i := 8) (some 18) rfl rfl (by kernel_rfl) (by kernel_rfl) (by kernel_rfl) rfl (fun W hK => ex_load (p := (.pointer (some ⟨b1, 0, none⟩))) rfl rfl (ld3 (at_cell (keepK hK d_k1 (fun e => ne_tag d_k1 d_k3 (by decide) e)) hS.c0))) S (fun c a w h => hQP c a _ _ w h) ?_
  simp only [Act.put, List.setIfInBounds_toArray, List.set_cons_zero, List.set_cons_succ]
  refine ah_take (v := (.pointer (some ⟨b2, 35, none⟩))) (i := 9) (some 19) rfl rfl (by kernel_rfl) (by kernel_rfl) (by kernel_rfl) rfl (fun W hK => ex_fa (p := (.pointer (some ⟨b2, 0, none⟩))) rfl rfl (fa49_4 _ _)) S (fun c a w h => hQP c a _ _ w h) ?_
  simp only [Act.put, List.setIfInBounds_toArray, List.set_cons_zero, List.set_cons_succ]
  refine ah_take (v := (.int .i64 q.ex)) (i := 10) (some 20) rfl rfl (by kernel_rfl) (by kernel_rfl) (by kernel_rfl) rfl (fun W hK => ex_load (p := (.pointer (some ⟨b2, 35, none⟩))) rfl rfl (ld3 (at_cell (keepK hK d_k2 (fun e => ne_tag d_k2 d_k3 (by decide) e)) hH.c35))) S (fun c a w h => hQP c a _ _ w h) ?_
  simp only [Act.put, List.setIfInBounds_toArray, List.set_cons_zero, List.set_cons_succ]
  refine ah_take (v := (.pointer (some ⟨b1, 2, none⟩))) (i := 11) (some 21) rfl rfl (by kernel_rfl) (by kernel_rfl) (by kernel_rfl) rfl (fun W hK => ex_fa (p := (.pointer (some ⟨b1, 0, none⟩))) rfl rfl (fa59_2 _ _)) S (fun c a w h => hQP c a _ _ w h) ?_
  simp only [Act.put, List.setIfInBounds_toArray, List.set_cons_zero, List.set_cons_succ]
  refine ah_take (v := (.int .i64 d)) (i := 12) (some 22) rfl rfl (by kernel_rfl) (by kernel_rfl) (by kernel_rfl) rfl (fun W hK => ex_load (p := (.pointer (some ⟨b1, 2, none⟩))) rfl rfl (ld3 (at_cell (keepK hK d_k1 (fun e => ne_tag d_k1 d_k3 (by decide) e)) hS.c2))) S (fun c a w h => hQP c a _ _ w h) ?_
  simp only [Act.put, List.setIfInBounds_toArray, List.set_cons_zero, List.set_cons_succ]
  refine ah_take (v := (.agg (pth x 0 false q.ex d Z32))) (i := 13) (some 23) rfl rfl (by kernel_rfl) (by kernel_rfl) (by kernel_rfl) rfl (fun W hK => ex_build3 (v1 := (.int .i64 x)) (v2 := (.int .i64 q.ex)) (v3 := (.int .i64 d)) rfl rfl rfl rfl (b66_034 _ _ _ _)) S (fun c a w h => hQP c a _ _ w h) ?_
  simp only [Act.put, List.setIfInBounds_toArray, List.set_cons_zero, List.set_cons_succ]
  refine ah_take (v := (.agg SD)) (i := 14) (some 24) rfl rfl (by kernel_rfl) (by kernel_rfl) (by kernel_rfl) rfl (fun W hK => ex_load (p := (.pointer (some ⟨b1, 0, none⟩))) rfl rfl (ld_all (keepK hK d_k1 (fun e => ne_tag d_k1 d_k3 (by decide) e)) Try.underlying59 rfl (inf59.trans (congrArg some (hS.size).symm)))) S (fun c a w h => hQP c a _ _ w h) ?_
  simp only [Act.put, List.setIfInBounds_toArray, List.set_cons_zero, List.set_cons_succ]
  refine ah_or1 (i := 15) (by kernel_rfl) ?_
  refine nx_call (some 25) rfl rfl rfl (back_any W4 hS) (ex_call (f := 48) (vs := [(.agg SD)]) rfl (cf48 _) rfl) ?_
  rintro e W5 ⟨rfl, B⟩
  refine ⟨_, rfl, S.next B, ?_⟩
  simp only [Act.put, List.setIfInBounds_toArray, List.set_cons_zero, List.set_cons_succ]
  replace E := below_next E B
  replace k1 := keep B k1
  replace k2 := keep B k2
  replace k3 := keep B k3
  replace S := S.next B
  refine ah_or1 (i := 16) (by kernel_rfl) ?_
  refine nx_new (fun b => .slice (some ⟨b, 0, none⟩) 3 3) (some 26) rfl rfl rfl (ex_bsl3 (u := (.agg (pth y 0 false 0 0 q.hash))) (r := (.agg (pth x 0 false q.ex d Z32))) (s := (.agg (pth y 0 false 0 0 v))) rfl rfl rfl rfl (bs44_3 _ (pth_size hH.hs) _ (pth_size Z32_size) _ (pth_size hS.hs) _)) ?_
  intro bt26 W6 kt26 gt26 B
  refine ⟨S.next B, ?_⟩
  simp only [Act.put, List.setIfInBounds_toArray, List.set_cons_zero, List.set_cons_succ]
  have gd_bt26 := Nat.le_trans S.size gt26
  have ge_bt26 := Nat.le_trans E.size gt26
  replace E := below_next E B
  replace k1 := keep B k1
  replace k2 := keep B k2
  replace k3 := keep B k3
  replace S := S.next B
  clear B
  refine ah_or1 (i := 17) (by kernel_rfl) ?_
  refine nx_call (some 27) rfl rfl rfl (output_any _ _ _ _ W6) (ex_call (f := 39) (vs := [(.int .i64 q.am), (.slice (some ⟨bt26, 0, none⟩) 3 3)]) rfl (cf39 _) rfl) ?_
  rintro e W7 ⟨rfl, B⟩
  refine ⟨_, rfl, S.next B, ?_⟩
  simp only [Act.put, List.setIfInBounds_toArray, List.set_cons_zero, List.set_cons_succ]
  replace E := below_next E B
  replace k1 := keep B k1
  replace k2 := keep B k2
  replace k3 := keep B k3
  replace S := S.next B
  replace kt26 := keep B kt26
  refine ah_or1 (i := 18) (by kernel_rfl) ?_
  obtain ⟨W8, hst, kn, K⟩ := put_all (D := #[(.int .i64 q.am), (.slice (some ⟨bt26, 0, none⟩) 3 3)]) k3 rfl inf46 (by kernel_rfl)
  refine nx_sk rfl rfl rfl (ex_store rfl rfl rfl hst) (S.putX K) ?_
  replace E := below_put E ge_b3 K
  replace k1 := keepK K k1 (fun e => ne_tag k1 k3 (by decide) e)
  replace k2 := keepK K k2 (fun e => ne_tag k2 k3 (by decide) e)
  replace S := S.putX K
  replace kt26 := keepK K kt26 (fun e => ne_tag kt26 k3 (by decide) e)
  replace k3 := kn
  clear kn K hst
  refine ah_done (by kernel_rfl) ?_
  clear hQP
  subst hQ
  clear S d_k1 d_k2 d_k3 
  refine wp_ret ?_
  refine ret_out ?_
  refine bodyPost_ret (results_cell_row Try.results31 _ _ b3 _ _ _ _ rfl k3 Try.underlying46 rfl inf46) rfl ⟨bt26, rfl, kt26, ge_bt26, E⟩

set_option maxHeartbeats 2000000 in
theorem htlc_yours {SD v H : Array Value} {x y d : Int} {q : HV} (hS : IsS SD x y d v) (hH : IsH H q) (e : ¬ q.by_ = x) (w : World) :
    Calls Try.prog 31 #[.agg SD, .agg H] w fun e w' => ∃ g, e = .returned (.agg #[.int .i64 q.am, .slice (some ⟨g, 0, none⟩) 3 3]) ∧ w'.heap[g]? = some (.cells (pth x 0 false 0 d q.hash ++ pth y 0 false q.ex 0 Z32 ++ pth y 0 false 0 0 v) 66) ∧ w.heap.size ≤ g ∧ Below w.heap.size w w' := by
  have E : Below w.heap.size w w := Below.refl _ _
  go_enter Try.func31, Try.ntmps31
  refine wp_seq ?_
  refine wl_in ?_
  refine wl_cap fun Q hQ => ?_
  refine st_new (fun b => .pointer (some ⟨b, 0, none⟩)) (some 2) rfl rfl (ex_box rfl rfl) ?_
  intro b1 W1 k1 g1 B
  simp only [Act.put, List.setIfInBounds_toArray, List.set_cons_zero, List.set_cons_succ]
  have ge_b1 := Nat.le_trans E.size g1
  replace E := below_next E B
  clear B
  refine st_new (fun b => .pointer (some ⟨b, 0, none⟩)) (some 3) rfl rfl (ex_box rfl rfl) ?_
  intro b2 W2 k2 g2 B
  simp only [Act.put, List.setIfInBounds_toArray, List.set_cons_zero, List.set_cons_succ]
  have ne_b2_b1 : b2 ≠ b1 := fun e => by have := lt_of k1; omega
  have ge_b2 := Nat.le_trans E.size g2
  replace E := below_next E B
  replace k1 := keep B k1
  clear B
  refine st_new (fun b => .pointer (some ⟨b, 0, none⟩)) (some 4) rfl rfl (ex_alloc rfl zero46) ?_
  intro b3 W3 k3 g3 B
  simp only [Act.put, List.setIfInBounds_toArray, List.set_cons_zero, List.set_cons_succ]
  have ne_b3_b1 : b3 ≠ b1 := fun e => by have := lt_of k1; omega
  have ne_b3_b2 : b3 ≠ b2 := fun e => by have := lt_of k2; omega
  have ge_b3 := Nat.le_trans E.size g3
  replace E := below_next E B
  replace k1 := keep B k1
  replace k2 := keep B k2
  clear B
  refine st_end ?_
  subst hQ
  refine wp_seq ?_
  refine wp_seq ?_
  refine wl_in ?_
  refine wl_cap fun Q hQ => ?_
  refine st_to (v := (.pointer (some ⟨b2, 0, none⟩))) (some 5) rfl rfl (ex_fa (p := (.pointer (some ⟨b2, 0, none⟩))) rfl rfl (fa49_0 _ _)) ?_
  simp only [Act.put, List.setIfInBounds_toArray, List.set_cons_zero, List.set_cons_succ]
  refine st_to (v := (.int .i64 q.by_)) (some 6) rfl rfl (ex_load (p := (.pointer (some ⟨b2, 0, none⟩))) rfl rfl (ld3 (at_cell k2 hH.c0))) ?_
  simp only [Act.put, List.setIfInBounds_toArray, List.set_cons_zero, List.set_cons_succ]
  refine st_to (v := (.pointer (some ⟨b1, 0, none⟩))) (some 7) rfl rfl (ex_fa (p := (.pointer (some ⟨b1, 0, none⟩))) rfl rfl (fa59_0 _ _)) ?_
  simp only [Act.put, List.setIfInBounds_toArray, List.set_cons_zero, List.set_cons_succ]
  refine st_to (v := (.int .i64 x)) (some 8) rfl rfl (ex_load (p := (.pointer (some ⟨b1, 0, none⟩))) rfl rfl (ld3 (at_cell k1 hS.c0))) ?_
  simp only [Act.put, List.setIfInBounds_toArray, List.set_cons_zero, List.set_cons_succ]
  refine st_to (v := (.bool false)) (some 9) rfl rfl (ex_bin (u := (.int .i64 q.by_)) (r := (.int .i64 x)) rfl rfl rfl (eg3 _ _ _ _ _ _) (eql3 _ (decide_eq_false e))) ?_
  simp only [Act.put, List.setIfInBounds_toArray, List.set_cons_zero, List.set_cons_succ]
  refine st_end ?_
  subst hQ
  refine wp_cond_false rfl ?_
  refine wp_skip ?_
  refine wp_seq ?_
  obtain ⟨W4, hwd⟩ : ∃ wd, W3.drew = wd := ⟨_, rfl⟩
  refine wp_region_held (S := fun W => Kept (· = b3) W4 W) (by kernel_rfl) ?_
  show wpAnyH _ _ _ _ _ _ _ _ W3.drew
  rw [hwd]
  refine capQ fun Q hQ => ?_
  have hQP : ∀ c (a : Act) (d : Nat) v w, Q (.panic c) (a.put (some d) v) w → Q (.panic c) a w := by
    subst hQ
    exact fun _ _ _ _ _ h => h
  have BD : Below W3.heap.size W3 W4 := by rw [← hwd]; exact below_drew (Below.refl _ _)
  clear hwd
  replace E := below_next E BD
  replace k1 := keep BD k1
  replace k2 := keep BD k2
  replace k3 := keep BD k3
  clear BD
  have S : Kept (· = b3) W4 W4 := Kept.refl _ _
  have d_k1 := k1
  have d_k2 := k2
  have d_k3 := k3
  refine ah_take (v := (.pointer (some ⟨b2, 2, none⟩))) (i := 0) (some 28) rfl rfl (by kernel_rfl) (by kernel_rfl) (by kernel_rfl) rfl (fun W hK => ex_fa (p := (.pointer (some ⟨b2, 0, none⟩))) rfl rfl (fa49_2 _ _)) S (fun c a w h => hQP c a _ _ w h) ?_
  simp only [Act.put, List.setIfInBounds_toArray, List.set_cons_zero, List.set_cons_succ]
  refine ah_take (v := (.int .i64 q.am)) (i := 1) (some 29) rfl rfl (by kernel_rfl) (by kernel_rfl) (by kernel_rfl) rfl (fun W hK => ex_load (p := (.pointer (some ⟨b2, 2, none⟩))) rfl rfl (ld3 (at_cell (keepK hK d_k2 (fun e => ne_tag d_k2 d_k3 (by decide) e)) hH.c2))) S (fun c a w h => hQP c a _ _ w h) ?_
  simp only [Act.put, List.setIfInBounds_toArray, List.set_cons_zero, List.set_cons_succ]
  refine ah_take (v := (.pointer (some ⟨b1, 0, none⟩))) (i := 2) (some 30) rfl rfl (by kernel_rfl) (by kernel_rfl) (by kernel_rfl) rfl (fun W hK => ex_fa (p := (.pointer (some ⟨b1, 0, none⟩))) rfl rfl (fa59_0 _ _)) S (fun c a w h => hQP c a _ _ w h) ?_
  simp only [Act.put, List.setIfInBounds_toArray, List.set_cons_zero, List.set_cons_succ]
  refine ah_take (v := (.int .i64 x)) (i := 3) (some 31) rfl rfl (by kernel_rfl) (by kernel_rfl) (by kernel_rfl) rfl (fun W hK => ex_load (p := (.pointer (some ⟨b1, 0, none⟩))) rfl rfl (ld3 (at_cell (keepK hK d_k1 (fun e => ne_tag d_k1 d_k3 (by decide) e)) hS.c0))) S (fun c a w h => hQP c a _ _ w h) ?_
  simp only [Act.put, List.setIfInBounds_toArray, List.set_cons_zero, List.set_cons_succ]
  refine ah_take (v := (.pointer (some ⟨b2, 3, none⟩))) (i := 4) (some 32) rfl rfl (by kernel_rfl) (by kernel_rfl) (by kernel_rfl) rfl (fun W hK => ex_fa (p := (.pointer (some ⟨b2, 0, none⟩))) rfl rfl (fa49_3 _ _)) S (fun c a w h => hQP c a _ _ w h) ?_
  simp only [Act.put, List.setIfInBounds_toArray, List.set_cons_zero, List.set_cons_succ]
  refine ah_take (v := (.agg q.hash)) (i := 5) (some 33) rfl rfl (by kernel_rfl) (by kernel_rfl) (by kernel_rfl) rfl (fun W hK => ex_load (p := (.pointer (some ⟨b2, 3, none⟩))) rfl rfl (hH.ldp (keepK hK d_k2 (fun e => ne_tag d_k2 d_k3 (by decide) e)))) S (fun c a w h => hQP c a _ _ w h) ?_
  simp only [Act.put, List.setIfInBounds_toArray, List.set_cons_zero, List.set_cons_succ]
  refine ah_take (v := (.pointer (some ⟨b1, 2, none⟩))) (i := 6) (some 34) rfl rfl (by kernel_rfl) (by kernel_rfl) (by kernel_rfl) rfl (fun W hK => ex_fa (p := (.pointer (some ⟨b1, 0, none⟩))) rfl rfl (fa59_2 _ _)) S (fun c a w h => hQP c a _ _ w h) ?_
  simp only [Act.put, List.setIfInBounds_toArray, List.set_cons_zero, List.set_cons_succ]
  refine ah_take (v := (.int .i64 d)) (i := 7) (some 35) rfl rfl (by kernel_rfl) (by kernel_rfl) (by kernel_rfl) rfl (fun W hK => ex_load (p := (.pointer (some ⟨b1, 2, none⟩))) rfl rfl (ld3 (at_cell (keepK hK d_k1 (fun e => ne_tag d_k1 d_k3 (by decide) e)) hS.c2))) S (fun c a w h => hQP c a _ _ w h) ?_
  simp only [Act.put, List.setIfInBounds_toArray, List.set_cons_zero, List.set_cons_succ]
  refine ah_take (v := (.agg (pth x 0 false 0 d q.hash))) (i := 8) (some 36) rfl rfl (by kernel_rfl) (by kernel_rfl) (by kernel_rfl) rfl (fun W hK => ex_build3 (v1 := (.int .i64 x)) (v2 := (.agg q.hash)) (v3 := (.int .i64 d)) rfl rfl rfl rfl (b66_054 _ _ _ hH.hs _)) S (fun c a w h => hQP c a _ _ w h) ?_
  simp only [Act.put, List.setIfInBounds_toArray, List.set_cons_zero, List.set_cons_succ]
  refine ah_take (v := (.pointer (some ⟨b1, 1, none⟩))) (i := 9) (some 37) rfl rfl (by kernel_rfl) (by kernel_rfl) (by kernel_rfl) rfl (fun W hK => ex_fa (p := (.pointer (some ⟨b1, 0, none⟩))) rfl rfl (fa59_1 _ _)) S (fun c a w h => hQP c a _ _ w h) ?_
  simp only [Act.put, List.setIfInBounds_toArray, List.set_cons_zero, List.set_cons_succ]
  refine ah_take (v := (.int .i64 y)) (i := 10) (some 38) rfl rfl (by kernel_rfl) (by kernel_rfl) (by kernel_rfl) rfl (fun W hK => ex_load (p := (.pointer (some ⟨b1, 1, none⟩))) rfl rfl (ld3 (at_cell (keepK hK d_k1 (fun e => ne_tag d_k1 d_k3 (by decide) e)) hS.c1))) S (fun c a w h => hQP c a _ _ w h) ?_
  simp only [Act.put, List.setIfInBounds_toArray, List.set_cons_zero, List.set_cons_succ]
  refine ah_take (v := (.pointer (some ⟨b2, 35, none⟩))) (i := 11) (some 39) rfl rfl (by kernel_rfl) (by kernel_rfl) (by kernel_rfl) rfl (fun W hK => ex_fa (p := (.pointer (some ⟨b2, 0, none⟩))) rfl rfl (fa49_4 _ _)) S (fun c a w h => hQP c a _ _ w h) ?_
  simp only [Act.put, List.setIfInBounds_toArray, List.set_cons_zero, List.set_cons_succ]
  refine ah_take (v := (.int .i64 q.ex)) (i := 12) (some 40) rfl rfl (by kernel_rfl) (by kernel_rfl) (by kernel_rfl) rfl (fun W hK => ex_load (p := (.pointer (some ⟨b2, 35, none⟩))) rfl rfl (ld3 (at_cell (keepK hK d_k2 (fun e => ne_tag d_k2 d_k3 (by decide) e)) hH.c35))) S (fun c a w h => hQP c a _ _ w h) ?_
  simp only [Act.put, List.setIfInBounds_toArray, List.set_cons_zero, List.set_cons_succ]
  refine ah_take (v := (.agg (pth y 0 false q.ex 0 Z32))) (i := 13) (some 41) rfl rfl (by kernel_rfl) (by kernel_rfl) (by kernel_rfl) rfl (fun W hK => ex_build2 (v1 := (.int .i64 y)) (v2 := (.int .i64 q.ex)) rfl rfl rfl (b66_03 _ _ _)) S (fun c a w h => hQP c a _ _ w h) ?_
  simp only [Act.put, List.setIfInBounds_toArray, List.set_cons_zero, List.set_cons_succ]
  refine ah_take (v := (.agg SD)) (i := 14) (some 42) rfl rfl (by kernel_rfl) (by kernel_rfl) (by kernel_rfl) rfl (fun W hK => ex_load (p := (.pointer (some ⟨b1, 0, none⟩))) rfl rfl (ld_all (keepK hK d_k1 (fun e => ne_tag d_k1 d_k3 (by decide) e)) Try.underlying59 rfl (inf59.trans (congrArg some (hS.size).symm)))) S (fun c a w h => hQP c a _ _ w h) ?_
  simp only [Act.put, List.setIfInBounds_toArray, List.set_cons_zero, List.set_cons_succ]
  refine ah_or1 (i := 15) (by kernel_rfl) ?_
  refine nx_call (some 43) rfl rfl rfl (back_any W4 hS) (ex_call (f := 48) (vs := [(.agg SD)]) rfl (cf48 _) rfl) ?_
  rintro e W5 ⟨rfl, B⟩
  refine ⟨_, rfl, S.next B, ?_⟩
  simp only [Act.put, List.setIfInBounds_toArray, List.set_cons_zero, List.set_cons_succ]
  replace E := below_next E B
  replace k1 := keep B k1
  replace k2 := keep B k2
  replace k3 := keep B k3
  replace S := S.next B
  refine ah_or1 (i := 16) (by kernel_rfl) ?_
  refine nx_new (fun b => .slice (some ⟨b, 0, none⟩) 3 3) (some 44) rfl rfl rfl (ex_bsl3 (u := (.agg (pth x 0 false 0 d q.hash))) (r := (.agg (pth y 0 false q.ex 0 Z32))) (s := (.agg (pth y 0 false 0 0 v))) rfl rfl rfl rfl (bs44_3 _ (pth_size hH.hs) _ (pth_size Z32_size) _ (pth_size hS.hs) _)) ?_
  intro bt44 W6 kt44 gt44 B
  refine ⟨S.next B, ?_⟩
  simp only [Act.put, List.setIfInBounds_toArray, List.set_cons_zero, List.set_cons_succ]
  have gd_bt44 := Nat.le_trans S.size gt44
  have ge_bt44 := Nat.le_trans E.size gt44
  replace E := below_next E B
  replace k1 := keep B k1
  replace k2 := keep B k2
  replace k3 := keep B k3
  replace S := S.next B
  clear B
  refine ah_or1 (i := 17) (by kernel_rfl) ?_
  refine nx_call (some 45) rfl rfl rfl (output_any _ _ _ _ W6) (ex_call (f := 39) (vs := [(.int .i64 q.am), (.slice (some ⟨bt44, 0, none⟩) 3 3)]) rfl (cf39 _) rfl) ?_
  rintro e W7 ⟨rfl, B⟩
  refine ⟨_, rfl, S.next B, ?_⟩
  simp only [Act.put, List.setIfInBounds_toArray, List.set_cons_zero, List.set_cons_succ]
  replace E := below_next E B
  replace k1 := keep B k1
  replace k2 := keep B k2
  replace k3 := keep B k3
  replace S := S.next B
  replace kt44 := keep B kt44
  refine ah_or1 (i := 18) (by kernel_rfl) ?_
  obtain ⟨W8, hst, kn, K⟩ := put_all (D := #[(.int .i64 q.am), (.slice (some ⟨bt44, 0, none⟩) 3 3)]) k3 rfl inf46 (by kernel_rfl)
  refine nx_sk rfl rfl rfl (ex_store rfl rfl rfl hst) (S.putX K) ?_
  replace E := below_put E ge_b3 K
  replace k1 := keepK K k1 (fun e => ne_tag k1 k3 (by decide) e)
  replace k2 := keepK K k2 (fun e => ne_tag k2 k3 (by decide) e)
  replace S := S.putX K
  replace kt44 := keepK K kt44 (fun e => ne_tag kt44 k3 (by decide) e)
  replace k3 := kn
  clear kn K hst
  refine ah_done (by kernel_rfl) ?_
  clear hQP
  subst hQ
  clear S d_k1 d_k2 d_k3 
  refine wp_ret ?_
  refine bodyPost_ret (results_cell_row Try.results31 _ _ b3 _ _ _ _ rfl k3 Try.underlying46 rfl inf46) rfl ⟨bt44, rfl, kt44, ge_bt44, E⟩

end Go.Proofs.Ytkhpbjafdamhaaa
