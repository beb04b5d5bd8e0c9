/- The document's terms, fees and places. -/
import Derived.Test.YtkhpbjafdamhaaaDOuts
namespace Go.Proofs.Ytkhpbjafdamhaaa
open Go.RowKit
set_option linter.unusedVariables false
set_option linter.unusedSimpArgs false
set_option maxRecDepth 100000

theorem radd_no {a b : Int} (w : World) (h1 : a ≤ 9223372036854775807) (h2 : b ≤ 9223372036854775807) (h : ¬ (0 ≤ a ∧ 0 ≤ b ∧ a + b ≤ 9223372036854775807)) :
    Calls Try.prog 36 #[.int .i64 a, .int .i64 b] w fun e w' => ∃ q, q ≠ 0 ∧ e = .returned (.tuple #[.int .i64 0, .int .i64 q]) ∧ Below w.heap.size w w' := by
  by_cases c1 : a < 0
  · skip
    have E : Below w.heap.size w w := Below.refl _ _
    go_enter Try.func36, Try.ntmps36
    refine wp_seq ?_
    refine wl_in ?_
    refine wl_cap fun Q hQ => ?_
    refine st_to (v := (.int .i64 0)) (some 4) rfl rfl (ex_asg rfl rfl) ?_
    simp only [Act.put, List.setIfInBounds_toArray, List.set_cons_zero, List.set_cons_succ]
    refine st_to (v := (.int .i64 0)) (some 5) rfl rfl (ex_asg rfl rfl) ?_
    simp only [Act.put, List.setIfInBounds_toArray, List.set_cons_zero, List.set_cons_succ]
    refine st_end ?_
    subst hQ
    refine wp_seq ?_
    refine wp_seq ?_
    refine wl_in ?_
    refine wl_cap fun Q hQ => ?_
    refine st_to (v := (.int .i64 a)) (some 6) rfl rfl (ex_mv rfl rfl) ?_
    simp only [Act.put, List.setIfInBounds_toArray, List.set_cons_zero, List.set_cons_succ]
    refine st_to (v := (.bool true)) (some 7) rfl rfl (ex_bin (u := (.int .i64 a)) (r := (.int .i64 0)) rfl rfl rfl (eg3 _ _ _ _ _ _) (lss3 _ (decide_eq_true c1))) ?_
    simp only [Act.put, List.setIfInBounds_toArray, List.set_cons_zero, List.set_cons_succ]
    refine st_to (v := (.bool true)) (some 8) rfl rfl (ex_mv rfl rfl) ?_
    simp only [Act.put, List.setIfInBounds_toArray, List.set_cons_zero, List.set_cons_succ]
    refine st_no (some 9) rfl rfl ?_
    simp only [Act.put, List.setIfInBounds_toArray, List.set_cons_zero, List.set_cons_succ]
    refine st_no (some 10) rfl rfl ?_
    simp only [Act.put, List.setIfInBounds_toArray, List.set_cons_zero, List.set_cons_succ]
    refine st_to (v := (.bool true)) (some 11) rfl rfl (ex_pkT rfl rfl rfl) ?_
    simp only [Act.put, List.setIfInBounds_toArray, List.set_cons_zero, List.set_cons_succ]
    refine st_end ?_
    subst hQ
    refine wp_cond_true rfl ?_
    refine wp_seq ?_
    refine wl_in ?_
    refine wl_cap fun Q hQ => ?_
    refine st_to (v := (.int .i64 0)) (some 4) rfl rfl (ex_asg rfl rfl) ?_
    simp only [Act.put, List.setIfInBounds_toArray, List.set_cons_zero, List.set_cons_succ]
    refine st_to (v := (.int .i64 1)) (some 5) rfl rfl (ex_asg rfl rfl) ?_
    simp only [Act.put, List.setIfInBounds_toArray, List.set_cons_zero, List.set_cons_succ]
    refine st_end ?_
    subst hQ
    refine wp_ret ?_
    refine ret_out ?_
    refine bodyPost_ret (results_tmp2 Try.results36 _ _ _) rfl ⟨1, by decide, rfl, E⟩
  by_cases c2 : b < 0
  · skip
    have E : Below w.heap.size w w := Below.refl _ _
    go_enter Try.func36, Try.ntmps36
    refine wp_seq ?_
    refine wl_in ?_
    refine wl_cap fun Q hQ => ?_
    refine st_to (v := (.int .i64 0)) (some 4) rfl rfl (ex_asg rfl rfl) ?_
    simp only [Act.put, List.setIfInBounds_toArray, List.set_cons_zero, List.set_cons_succ]
    refine st_to (v := (.int .i64 0)) (some 5) rfl rfl (ex_asg rfl rfl) ?_
    simp only [Act.put, List.setIfInBounds_toArray, List.set_cons_zero, List.set_cons_succ]
    refine st_end ?_
    subst hQ
    refine wp_seq ?_
    refine wp_seq ?_
    refine wl_in ?_
    refine wl_cap fun Q hQ => ?_
    refine st_to (v := (.int .i64 a)) (some 6) rfl rfl (ex_mv rfl rfl) ?_
    simp only [Act.put, List.setIfInBounds_toArray, List.set_cons_zero, List.set_cons_succ]
    refine st_to (v := (.bool false)) (some 7) rfl rfl (ex_bin (u := (.int .i64 a)) (r := (.int .i64 0)) rfl rfl rfl (eg3 _ _ _ _ _ _) (lss3 _ (decide_eq_false c1))) ?_
    simp only [Act.put, List.setIfInBounds_toArray, List.set_cons_zero, List.set_cons_succ]
    refine st_to (v := (.bool false)) (some 8) rfl rfl (ex_mv rfl rfl) ?_
    simp only [Act.put, List.setIfInBounds_toArray, List.set_cons_zero, List.set_cons_succ]
    refine st_to (v := (.int .i64 b)) (some 9) rfl rfl (ex_mv rfl rfl) ?_
    simp only [Act.put, List.setIfInBounds_toArray, List.set_cons_zero, List.set_cons_succ]
    refine st_to (v := (.bool true)) (some 10) rfl rfl (ex_bin (u := (.int .i64 b)) (r := (.int .i64 0)) rfl rfl rfl (eg3 _ _ _ _ _ _) (lss3 _ (decide_eq_true c2))) ?_
    simp only [Act.put, List.setIfInBounds_toArray, List.set_cons_zero, List.set_cons_succ]
    refine st_to (v := (.bool true)) (some 11) rfl rfl (ex_pkF rfl rfl rfl) ?_
    simp only [Act.put, List.setIfInBounds_toArray, List.set_cons_zero, List.set_cons_succ]
    refine st_end ?_
    subst hQ
    refine wp_cond_true rfl ?_
    refine wp_seq ?_
    refine wl_in ?_
    refine wl_cap fun Q hQ => ?_
    refine st_to (v := (.int .i64 0)) (some 4) rfl rfl (ex_asg rfl rfl) ?_
    simp only [Act.put, List.setIfInBounds_toArray, List.set_cons_zero, List.set_cons_succ]
    refine st_to (v := (.int .i64 1)) (some 5) rfl rfl (ex_asg rfl rfl) ?_
    simp only [Act.put, List.setIfInBounds_toArray, List.set_cons_zero, List.set_cons_succ]
    refine st_end ?_
    subst hQ
    refine wp_ret ?_
    refine ret_out ?_
    refine bodyPost_ret (results_tmp2 Try.results36 _ _ _) rfl ⟨1, by decide, rfl, E⟩
  have c3 : 9223372036854775807 - b < a := by omega
  have E : Below w.heap.size w w := Below.refl _ _
  go_enter Try.func36, Try.ntmps36
  refine wp_seq ?_
  refine wl_in ?_
  refine wl_cap fun Q hQ => ?_
  refine st_to (v := (.int .i64 0)) (some 4) rfl rfl (ex_asg rfl rfl) ?_
  simp only [Act.put, List.setIfInBounds_toArray, List.set_cons_zero, List.set_cons_succ]
  refine st_to (v := (.int .i64 0)) (some 5) rfl rfl (ex_asg rfl rfl) ?_
  simp only [Act.put, List.setIfInBounds_toArray, List.set_cons_zero, List.set_cons_succ]
  refine st_end ?_
  subst hQ
  refine wp_seq ?_
  refine wp_seq ?_
  refine wl_in ?_
  refine wl_cap fun Q hQ => ?_
  refine st_to (v := (.int .i64 a)) (some 6) rfl rfl (ex_mv rfl rfl) ?_
  simp only [Act.put, List.setIfInBounds_toArray, List.set_cons_zero, List.set_cons_succ]
  refine st_to (v := (.bool false)) (some 7) rfl rfl (ex_bin (u := (.int .i64 a)) (r := (.int .i64 0)) rfl rfl rfl (eg3 _ _ _ _ _ _) (lss3 _ (decide_eq_false c1))) ?_
  simp only [Act.put, List.setIfInBounds_toArray, List.set_cons_zero, List.set_cons_succ]
  refine st_to (v := (.bool false)) (some 8) rfl rfl (ex_mv rfl rfl) ?_
  simp only [Act.put, List.setIfInBounds_toArray, List.set_cons_zero, List.set_cons_succ]
  refine st_to (v := (.int .i64 b)) (some 9) rfl rfl (ex_mv rfl rfl) ?_
  simp only [Act.put, List.setIfInBounds_toArray, List.set_cons_zero, List.set_cons_succ]
  refine st_to (v := (.bool false)) (some 10) rfl rfl (ex_bin (u := (.int .i64 b)) (r := (.int .i64 0)) rfl rfl rfl (eg3 _ _ _ _ _ _) (lss3 _ (decide_eq_false c2))) ?_
  simp only [Act.put, List.setIfInBounds_toArray, List.set_cons_zero, List.set_cons_succ]
  refine st_to (v := (.bool false)) (some 11) rfl rfl (ex_pkF rfl rfl rfl) ?_
  simp only [Act.put, List.setIfInBounds_toArray, List.set_cons_zero, List.set_cons_succ]
  refine st_end ?_
  subst hQ
  refine wp_cond_false rfl ?_
  refine wp_skip ?_
  refine wp_seq ?_
  refine wp_seq ?_
  refine wl_in ?_
  refine wl_cap fun Q hQ => ?_
  refine st_to (v := (.int .i64 a)) (some 12) rfl rfl (ex_mv rfl rfl) ?_
  simp only [Act.put, List.setIfInBounds_toArray, List.set_cons_zero, List.set_cons_succ]
  refine st_to (v := (.int .i64 b)) (some 13) rfl rfl (ex_mv rfl rfl) ?_
  simp only [Act.put, List.setIfInBounds_toArray, List.set_cons_zero, List.set_cons_succ]
  refine st_to (v := (.int .i64 (9223372036854775807 - b))) (some 14) rfl rfl (ex_bin rfl rfl rfl (eg3 _ _ _ _ _ _) (sub3 _ rfl (by omega))) ?_
  simp only [Act.put, List.setIfInBounds_toArray, List.set_cons_zero, List.set_cons_succ]
  refine st_to (v := (.bool true)) (some 15) rfl rfl (ex_bin (u := (.int .i64 a)) (r := (.int .i64 (9223372036854775807 - b))) rfl rfl rfl (eg3 _ _ _ _ _ _) (gtr3 _ (decide_eq_true c3))) ?_
  simp only [Act.put, List.setIfInBounds_toArray, List.set_cons_zero, List.set_cons_succ]
  refine st_end ?_
  subst hQ
  refine wp_cond_true rfl ?_
  refine wp_seq ?_
  refine wl_in ?_
  refine wl_cap fun Q hQ => ?_
  refine st_to (v := (.int .i64 0)) (some 4) rfl rfl (ex_asg rfl rfl) ?_
  simp only [Act.put, List.setIfInBounds_toArray, List.set_cons_zero, List.set_cons_succ]
  refine st_to (v := (.int .i64 20)) (some 5) rfl rfl (ex_asg rfl rfl) ?_
  simp only [Act.put, List.setIfInBounds_toArray, List.set_cons_zero, List.set_cons_succ]
  refine st_end ?_
  subst hQ
  refine wp_ret ?_
  refine ret_out ?_
  refine bodyPost_ret (results_tmp2 Try.results36 _ _ _) rfl ⟨20, by decide, rfl, E⟩
set_option maxHeartbeats 8000000 in
theorem rmay_any {C : Array Value} {t : TV} (w : World) (hT : IsT C t) (hb : TB t) {c : Bool} (hc : mayT t = c) :
    Calls Try.prog 13 #[.agg C] w fun e w' => e = .returned (.bool c) ∧ Below w.heap.size w w' := by
  subst hc
  unfold mayT
  by_cases c0 : t.ch < 1
  · skip
    have E : Below w.heap.size w w := Below.refl _ _
    go_enter Try.func13, Try.ntmps13
    refine wp_seq ?_
    refine wl_in ?_
    refine wl_cap fun Q hQ => ?_
    refine st_new (fun b => .pointer (some ⟨b, 0, none⟩)) (some 1) rfl rfl (ex_box rfl rfl) ?_
    intro b1 W1 k1 g1 B
    simp only [Act.put, List.setIfInBounds_toArray, List.set_cons_zero, List.set_cons_succ]
    have ge_b1 := Nat.le_trans E.size g1
    replace E := below_next E B
    clear B
    refine st_to (v := (.bool false)) (some 2) rfl rfl (ex_asg rfl rfl) ?_
    simp only [Act.put, List.setIfInBounds_toArray, List.set_cons_zero, List.set_cons_succ]
    refine st_end ?_
    subst hQ
    refine wp_seq ?_
    refine wp_seq ?_
    refine wl_in ?_
    refine wl_cap fun Q hQ => ?_
    refine st_to (v := (.pointer (some ⟨b1, 0, none⟩))) (some 5) rfl rfl (ex_fa (p := (.pointer (some ⟨b1, 0, none⟩))) rfl rfl (fa26_0 _ _)) ?_
    simp only [Act.put, List.setIfInBounds_toArray, List.set_cons_zero, List.set_cons_succ]
    refine st_to (v := (.int .i64 t.ch)) (some 6) rfl rfl (ex_load (p := (.pointer (some ⟨b1, 0, none⟩))) rfl rfl (ld3 (at_cell k1 hT.c0))) ?_
    simp only [Act.put, List.setIfInBounds_toArray, List.set_cons_zero, List.set_cons_succ]
    refine st_to (v := (.bool true)) (some 7) rfl rfl (ex_bin (u := (.int .i64 t.ch)) (r := (.int .i64 1)) rfl rfl rfl (eg3 _ _ _ _ _ _) (lss3 _ (decide_eq_true c0))) ?_
    simp only [Act.put, List.setIfInBounds_toArray, List.set_cons_zero, List.set_cons_succ]
    refine st_to (v := (.bool true)) (some 8) rfl rfl (ex_mv rfl rfl) ?_
    simp only [Act.put, List.setIfInBounds_toArray, List.set_cons_zero, List.set_cons_succ]
    refine st_no (some 9) rfl rfl ?_
    simp only [Act.put, List.setIfInBounds_toArray, List.set_cons_zero, List.set_cons_succ]
    refine st_no (some 10) rfl rfl ?_
    simp only [Act.put, List.setIfInBounds_toArray, List.set_cons_zero, List.set_cons_succ]
    refine st_no (some 11) rfl rfl ?_
    simp only [Act.put, List.setIfInBounds_toArray, List.set_cons_zero, List.set_cons_succ]
    refine st_to (v := (.bool true)) (some 12) rfl rfl (ex_pkT rfl rfl rfl) ?_
    simp only [Act.put, List.setIfInBounds_toArray, List.set_cons_zero, List.set_cons_succ]
    refine st_to (v := (.bool true)) (some 13) rfl rfl (ex_mv rfl rfl) ?_
    simp only [Act.put, List.setIfInBounds_toArray, List.set_cons_zero, List.set_cons_succ]
    refine st_no (some 14) rfl rfl ?_
    simp only [Act.put, List.setIfInBounds_toArray, List.set_cons_zero, List.set_cons_succ]
    refine st_no (some 15) rfl rfl ?_
    simp only [Act.put, List.setIfInBounds_toArray, List.set_cons_zero, List.set_cons_succ]
    refine st_no (some 16) rfl rfl ?_
    simp only [Act.put, List.setIfInBounds_toArray, List.set_cons_zero, List.set_cons_succ]
    refine st_to (v := (.bool true)) (some 17) rfl rfl (ex_pkT rfl rfl rfl) ?_
    simp only [Act.put, List.setIfInBounds_toArray, List.set_cons_zero, List.set_cons_succ]
    refine st_to (v := (.bool true)) (some 18) rfl rfl (ex_mv rfl rfl) ?_
    simp only [Act.put, List.setIfInBounds_toArray, List.set_cons_zero, List.set_cons_succ]
    refine st_no (some 19) rfl rfl ?_
    simp only [Act.put, List.setIfInBounds_toArray, List.set_cons_zero, List.set_cons_succ]
    refine st_no (some 20) rfl rfl ?_
    simp only [Act.put, List.setIfInBounds_toArray, List.set_cons_zero, List.set_cons_succ]
    refine st_no (some 21) rfl rfl ?_
    simp only [Act.put, List.setIfInBounds_toArray, List.set_cons_zero, List.set_cons_succ]
    refine st_to (v := (.bool true)) (some 22) rfl rfl (ex_pkT rfl rfl rfl) ?_
    simp only [Act.put, List.setIfInBounds_toArray, List.set_cons_zero, List.set_cons_succ]
    refine st_to (v := (.bool true)) (some 23) rfl rfl (ex_mv rfl rfl) ?_
    simp only [Act.put, List.setIfInBounds_toArray, List.set_cons_zero, List.set_cons_succ]
    refine st_no (some 24) rfl rfl ?_
    simp only [Act.put, List.setIfInBounds_toArray, List.set_cons_zero, List.set_cons_succ]
    refine st_no (some 25) rfl rfl ?_
    simp only [Act.put, List.setIfInBounds_toArray, List.set_cons_zero, List.set_cons_succ]
    refine st_no (some 26) rfl rfl ?_
    simp only [Act.put, List.setIfInBounds_toArray, List.set_cons_zero, List.set_cons_succ]
    refine st_no (some 27) rfl rfl ?_
    simp only [Act.put, List.setIfInBounds_toArray, List.set_cons_zero, List.set_cons_succ]
    refine st_no (some 28) rfl rfl ?_
    simp only [Act.put, List.setIfInBounds_toArray, List.set_cons_zero, List.set_cons_succ]
    refine st_to (v := (.bool true)) (some 29) rfl rfl (ex_pkT rfl rfl rfl) ?_
    simp only [Act.put, List.setIfInBounds_toArray, List.set_cons_zero, List.set_cons_succ]
    refine st_to (v := (.bool true)) (some 30) rfl rfl (ex_mv rfl rfl) ?_
    simp only [Act.put, List.setIfInBounds_toArray, List.set_cons_zero, List.set_cons_succ]
    refine st_no (some 31) rfl rfl ?_
    simp only [Act.put, List.setIfInBounds_toArray, List.set_cons_zero, List.set_cons_succ]
    refine st_no (some 32) rfl rfl ?_
    simp only [Act.put, List.setIfInBounds_toArray, List.set_cons_zero, List.set_cons_succ]
    refine st_no (some 33) rfl rfl ?_
    simp only [Act.put, List.setIfInBounds_toArray, List.set_cons_zero, List.set_cons_succ]
    refine st_no (some 34) rfl rfl ?_
    simp only [Act.put, List.setIfInBounds_toArray, List.set_cons_zero, List.set_cons_succ]
    refine st_to (v := (.bool true)) (some 35) rfl rfl (ex_pkT rfl rfl rfl) ?_
    simp only [Act.put, List.setIfInBounds_toArray, List.set_cons_zero, List.set_cons_succ]
    refine st_to (v := (.bool true)) (some 36) rfl rfl (ex_mv rfl rfl) ?_
    simp only [Act.put, List.setIfInBounds_toArray, List.set_cons_zero, List.set_cons_succ]
    refine st_no (some 37) rfl rfl ?_
    simp only [Act.put, List.setIfInBounds_toArray, List.set_cons_zero, List.set_cons_succ]
    refine st_no (some 38) rfl rfl ?_
    simp only [Act.put, List.setIfInBounds_toArray, List.set_cons_zero, List.set_cons_succ]
    refine st_no (some 39) rfl rfl ?_
    simp only [Act.put, List.setIfInBounds_toArray, List.set_cons_zero, List.set_cons_succ]
    refine st_to (v := (.bool true)) (some 40) rfl rfl (ex_pkT rfl rfl rfl) ?_
    simp only [Act.put, List.setIfInBounds_toArray, List.set_cons_zero, List.set_cons_succ]
    refine st_to (v := (.bool true)) (some 41) rfl rfl (ex_mv rfl rfl) ?_
    simp only [Act.put, List.setIfInBounds_toArray, List.set_cons_zero, List.set_cons_succ]
    refine st_no (some 42) rfl rfl ?_
    simp only [Act.put, List.setIfInBounds_toArray, List.set_cons_zero, List.set_cons_succ]
    refine st_no (some 43) rfl rfl ?_
    simp only [Act.put, List.setIfInBounds_toArray, List.set_cons_zero, List.set_cons_succ]
    refine st_no (some 44) rfl rfl ?_
    simp only [Act.put, List.setIfInBounds_toArray, List.set_cons_zero, List.set_cons_succ]
    refine st_to (v := (.bool true)) (some 45) rfl rfl (ex_pkT rfl rfl rfl) ?_
    simp only [Act.put, List.setIfInBounds_toArray, List.set_cons_zero, List.set_cons_succ]
    refine st_to (v := (.bool true)) (some 46) rfl rfl (ex_mv rfl rfl) ?_
    simp only [Act.put, List.setIfInBounds_toArray, List.set_cons_zero, List.set_cons_succ]
    refine st_no (some 47) rfl rfl ?_
    simp only [Act.put, List.setIfInBounds_toArray, List.set_cons_zero, List.set_cons_succ]
    refine st_no (some 48) rfl rfl ?_
    simp only [Act.put, List.setIfInBounds_toArray, List.set_cons_zero, List.set_cons_succ]
    refine st_no (some 49) rfl rfl ?_
    simp only [Act.put, List.setIfInBounds_toArray, List.set_cons_zero, List.set_cons_succ]
    refine st_to (v := (.bool true)) (some 50) rfl rfl (ex_pkT rfl rfl rfl) ?_
    simp only [Act.put, List.setIfInBounds_toArray, List.set_cons_zero, List.set_cons_succ]
    refine st_to (v := (.bool true)) (some 51) rfl rfl (ex_mv rfl rfl) ?_
    simp only [Act.put, List.setIfInBounds_toArray, List.set_cons_zero, List.set_cons_succ]
    refine st_no (some 52) rfl rfl ?_
    simp only [Act.put, List.setIfInBounds_toArray, List.set_cons_zero, List.set_cons_succ]
    refine st_no (some 53) rfl rfl ?_
    simp only [Act.put, List.setIfInBounds_toArray, List.set_cons_zero, List.set_cons_succ]
    refine st_no (some 54) rfl rfl ?_
    simp only [Act.put, List.setIfInBounds_toArray, List.set_cons_zero, List.set_cons_succ]
    refine st_to (v := (.bool true)) (some 55) rfl rfl (ex_pkT rfl rfl rfl) ?_
    simp only [Act.put, List.setIfInBounds_toArray, List.set_cons_zero, List.set_cons_succ]
    refine st_to (v := (.bool true)) (some 56) rfl rfl (ex_mv rfl rfl) ?_
    simp only [Act.put, List.setIfInBounds_toArray, List.set_cons_zero, List.set_cons_succ]
    refine st_no (some 57) rfl rfl ?_
    simp only [Act.put, List.setIfInBounds_toArray, List.set_cons_zero, List.set_cons_succ]
    refine st_no (some 58) rfl rfl ?_
    simp only [Act.put, List.setIfInBounds_toArray, List.set_cons_zero, List.set_cons_succ]
    refine st_no (some 59) rfl rfl ?_
    simp only [Act.put, List.setIfInBounds_toArray, List.set_cons_zero, List.set_cons_succ]
    refine st_to (v := (.bool true)) (some 60) rfl rfl (ex_pkT rfl rfl rfl) ?_
    simp only [Act.put, List.setIfInBounds_toArray, List.set_cons_zero, List.set_cons_succ]
    refine st_to (v := (.bool true)) (some 61) rfl rfl (ex_mv rfl rfl) ?_
    simp only [Act.put, List.setIfInBounds_toArray, List.set_cons_zero, List.set_cons_succ]
    refine st_no (some 62) rfl rfl ?_
    simp only [Act.put, List.setIfInBounds_toArray, List.set_cons_zero, List.set_cons_succ]
    refine st_no (some 63) rfl rfl ?_
    simp only [Act.put, List.setIfInBounds_toArray, List.set_cons_zero, List.set_cons_succ]
    refine st_no (some 64) rfl rfl ?_
    simp only [Act.put, List.setIfInBounds_toArray, List.set_cons_zero, List.set_cons_succ]
    refine st_to (v := (.bool true)) (some 65) rfl rfl (ex_pkT rfl rfl rfl) ?_
    simp only [Act.put, List.setIfInBounds_toArray, List.set_cons_zero, List.set_cons_succ]
    refine st_to (v := (.bool true)) (some 66) rfl rfl (ex_mv rfl rfl) ?_
    simp only [Act.put, List.setIfInBounds_toArray, List.set_cons_zero, List.set_cons_succ]
    refine st_no (some 67) rfl rfl ?_
    simp only [Act.put, List.setIfInBounds_toArray, List.set_cons_zero, List.set_cons_succ]
    refine st_no (some 68) rfl rfl ?_
    simp only [Act.put, List.setIfInBounds_toArray, List.set_cons_zero, List.set_cons_succ]
    refine st_no (some 69) rfl rfl ?_
    simp only [Act.put, List.setIfInBounds_toArray, List.set_cons_zero, List.set_cons_succ]
    refine st_to (v := (.bool true)) (some 70) rfl rfl (ex_pkT rfl rfl rfl) ?_
    simp only [Act.put, List.setIfInBounds_toArray, List.set_cons_zero, List.set_cons_succ]
    refine st_end ?_
    subst hQ
    refine wp_cond_true rfl ?_
    refine wp_seq ?_
    refine wl_in ?_
    refine wl_cap fun Q hQ => ?_
    refine st_to (v := (.bool false)) (some 2) rfl rfl (ex_asg rfl rfl) ?_
    simp only [Act.put, List.setIfInBounds_toArray, List.set_cons_zero, List.set_cons_succ]
    refine st_end ?_
    subst hQ
    refine wp_ret ?_
    refine ret_out ?_
    refine bodyPost_ret (results_tmp Try.results13 _ _ _) rfl ⟨?_, E⟩
    show Ending.returned (.bool false) = _
    rw [decide_eq_false (by omega)]
  by_cases c1 : 65535 < t.ch
  · skip
    have E : Below w.heap.size w w := Below.refl _ _
    go_enter Try.func13, Try.ntmps13
    refine wp_seq ?_
    refine wl_in ?_
    refine wl_cap fun Q hQ => ?_
    refine st_new (fun b => .pointer (some ⟨b, 0, none⟩)) (some 1) rfl rfl (ex_box rfl rfl) ?_
    intro b1 W1 k1 g1 B
    simp only [Act.put, List.setIfInBounds_toArray, List.set_cons_zero, List.set_cons_succ]
    have ge_b1 := Nat.le_trans E.size g1
    replace E := below_next E B
    clear B
    refine st_to (v := (.bool false)) (some 2) rfl rfl (ex_asg rfl rfl) ?_
    simp only [Act.put, List.setIfInBounds_toArray, List.set_cons_zero, List.set_cons_succ]
    refine st_end ?_
    subst hQ
    refine wp_seq ?_
    refine wp_seq ?_
    refine wl_in ?_
    refine wl_cap fun Q hQ => ?_
    refine st_to (v := (.pointer (some ⟨b1, 0, none⟩))) (some 5) rfl rfl (ex_fa (p := (.pointer (some ⟨b1, 0, none⟩))) rfl rfl (fa26_0 _ _)) ?_
    simp only [Act.put, List.setIfInBounds_toArray, List.set_cons_zero, List.set_cons_succ]
    refine st_to (v := (.int .i64 t.ch)) (some 6) rfl rfl (ex_load (p := (.pointer (some ⟨b1, 0, none⟩))) rfl rfl (ld3 (at_cell k1 hT.c0))) ?_
    simp only [Act.put, List.setIfInBounds_toArray, List.set_cons_zero, List.set_cons_succ]
    refine st_to (v := (.bool false)) (some 7) rfl rfl (ex_bin (u := (.int .i64 t.ch)) (r := (.int .i64 1)) rfl rfl rfl (eg3 _ _ _ _ _ _) (lss3 _ (decide_eq_false c0))) ?_
    simp only [Act.put, List.setIfInBounds_toArray, List.set_cons_zero, List.set_cons_succ]
    refine st_to (v := (.bool false)) (some 8) rfl rfl (ex_mv rfl rfl) ?_
    simp only [Act.put, List.setIfInBounds_toArray, List.set_cons_zero, List.set_cons_succ]
    refine st_to (v := (.pointer (some ⟨b1, 0, none⟩))) (some 9) rfl rfl (ex_fa (p := (.pointer (some ⟨b1, 0, none⟩))) rfl rfl (fa26_0 _ _)) ?_
    simp only [Act.put, List.setIfInBounds_toArray, List.set_cons_zero, List.set_cons_succ]
    refine st_to (v := (.int .i64 t.ch)) (some 10) rfl rfl (ex_load (p := (.pointer (some ⟨b1, 0, none⟩))) rfl rfl (ld3 (at_cell k1 hT.c0))) ?_
    simp only [Act.put, List.setIfInBounds_toArray, List.set_cons_zero, List.set_cons_succ]
    refine st_to (v := (.bool true)) (some 11) rfl rfl (ex_bin (u := (.int .i64 t.ch)) (r := (.int .i64 65535)) rfl rfl rfl (eg3 _ _ _ _ _ _) (gtr3 _ (decide_eq_true c1))) ?_
    simp only [Act.put, List.setIfInBounds_toArray, List.set_cons_zero, List.set_cons_succ]
    refine st_to (v := (.bool true)) (some 12) rfl rfl (ex_pkF rfl rfl rfl) ?_
    simp only [Act.put, List.setIfInBounds_toArray, List.set_cons_zero, List.set_cons_succ]
    refine st_to (v := (.bool true)) (some 13) rfl rfl (ex_mv rfl rfl) ?_
    simp only [Act.put, List.setIfInBounds_toArray, List.set_cons_zero, List.set_cons_succ]
    refine st_no (some 14) rfl rfl ?_
    simp only [Act.put, List.setIfInBounds_toArray, List.set_cons_zero, List.set_cons_succ]
    refine st_no (some 15) rfl rfl ?_
    simp only [Act.put, List.setIfInBounds_toArray, List.set_cons_zero, List.set_cons_succ]
    refine st_no (some 16) rfl rfl ?_
    simp only [Act.put, List.setIfInBounds_toArray, List.set_cons_zero, List.set_cons_succ]
    refine st_to (v := (.bool true)) (some 17) rfl rfl (ex_pkT rfl rfl rfl) ?_
    simp only [Act.put, List.setIfInBounds_toArray, List.set_cons_zero, List.set_cons_succ]
    refine st_to (v := (.bool true)) (some 18) rfl rfl (ex_mv rfl rfl) ?_
    simp only [Act.put, List.setIfInBounds_toArray, List.set_cons_zero, List.set_cons_succ]
    refine st_no (some 19) rfl rfl ?_
    simp only [Act.put, List.setIfInBounds_toArray, List.set_cons_zero, List.set_cons_succ]
    refine st_no (some 20) rfl rfl ?_
    simp only [Act.put, List.setIfInBounds_toArray, List.set_cons_zero, List.set_cons_succ]
    refine st_no (some 21) rfl rfl ?_
    simp only [Act.put, List.setIfInBounds_toArray, List.set_cons_zero, List.set_cons_succ]
    refine st_to (v := (.bool true)) (some 22) rfl rfl (ex_pkT rfl rfl rfl) ?_
    simp only [Act.put, List.setIfInBounds_toArray, List.set_cons_zero, List.set_cons_succ]
    refine st_to (v := (.bool true)) (some 23) rfl rfl (ex_mv rfl rfl) ?_
    simp only [Act.put, List.setIfInBounds_toArray, List.set_cons_zero, List.set_cons_succ]
    refine st_no (some 24) rfl rfl ?_
    simp only [Act.put, List.setIfInBounds_toArray, List.set_cons_zero, List.set_cons_succ]
    refine st_no (some 25) rfl rfl ?_
    simp only [Act.put, List.setIfInBounds_toArray, List.set_cons_zero, List.set_cons_succ]
    refine st_no (some 26) rfl rfl ?_
    simp only [Act.put, List.setIfInBounds_toArray, List.set_cons_zero, List.set_cons_succ]
    refine st_no (some 27) rfl rfl ?_
    simp only [Act.put, List.setIfInBounds_toArray, List.set_cons_zero, List.set_cons_succ]
    refine st_no (some 28) rfl rfl ?_
    simp only [Act.put, List.setIfInBounds_toArray, List.set_cons_zero, List.set_cons_succ]
    refine st_to (v := (.bool true)) (some 29) rfl rfl (ex_pkT rfl rfl rfl) ?_
    simp only [Act.put, List.setIfInBounds_toArray, List.set_cons_zero, List.set_cons_succ]
    refine st_to (v := (.bool true)) (some 30) rfl rfl (ex_mv rfl rfl) ?_
    simp only [Act.put, List.setIfInBounds_toArray, List.set_cons_zero, List.set_cons_succ]
    refine st_no (some 31) rfl rfl ?_
    simp only [Act.put, List.setIfInBounds_toArray, List.set_cons_zero, List.set_cons_succ]
    refine st_no (some 32) rfl rfl ?_
    simp only [Act.put, List.setIfInBounds_toArray, List.set_cons_zero, List.set_cons_succ]
    refine st_no (some 33) rfl rfl ?_
    simp only [Act.put, List.setIfInBounds_toArray, List.set_cons_zero, List.set_cons_succ]
    refine st_no (some 34) rfl rfl ?_
    simp only [Act.put, List.setIfInBounds_toArray, List.set_cons_zero, List.set_cons_succ]
    refine st_to (v := (.bool true)) (some 35) rfl rfl (ex_pkT rfl rfl rfl) ?_
    simp only [Act.put, List.setIfInBounds_toArray, List.set_cons_zero, List.set_cons_succ]
    refine st_to (v := (.bool true)) (some 36) rfl rfl (ex_mv rfl rfl) ?_
    simp only [Act.put, List.setIfInBounds_toArray, List.set_cons_zero, List.set_cons_succ]
    refine st_no (some 37) rfl rfl ?_
    simp only [Act.put, List.setIfInBounds_toArray, List.set_cons_zero, List.set_cons_succ]
    refine st_no (some 38) rfl rfl ?_
    simp only [Act.put, List.setIfInBounds_toArray, List.set_cons_zero, List.set_cons_succ]
    refine st_no (some 39) rfl rfl ?_
    simp only [Act.put, List.setIfInBounds_toArray, List.set_cons_zero, List.set_cons_succ]
    refine st_to (v := (.bool true)) (some 40) rfl rfl (ex_pkT rfl rfl rfl) ?_
    simp only [Act.put, List.setIfInBounds_toArray, List.set_cons_zero, List.set_cons_succ]
    refine st_to (v := (.bool true)) (some 41) rfl rfl (ex_mv rfl rfl) ?_
    simp only [Act.put, List.setIfInBounds_toArray, List.set_cons_zero, List.set_cons_succ]
    refine st_no (some 42) rfl rfl ?_
    simp only [Act.put, List.setIfInBounds_toArray, List.set_cons_zero, List.set_cons_succ]
    refine st_no (some 43) rfl rfl ?_
    simp only [Act.put, List.setIfInBounds_toArray, List.set_cons_zero, List.set_cons_succ]
    refine st_no (some 44) rfl rfl ?_
    simp only [Act.put, List.setIfInBounds_toArray, List.set_cons_zero, List.set_cons_succ]
    refine st_to (v := (.bool true)) (some 45) rfl rfl (ex_pkT rfl rfl rfl) ?_
    simp only [Act.put, List.setIfInBounds_toArray, List.set_cons_zero, List.set_cons_succ]
    refine st_to (v := (.bool true)) (some 46) rfl rfl (ex_mv rfl rfl) ?_
    simp only [Act.put, List.setIfInBounds_toArray, List.set_cons_zero, List.set_cons_succ]
    refine st_no (some 47) rfl rfl ?_
    simp only [Act.put, List.setIfInBounds_toArray, List.set_cons_zero, List.set_cons_succ]
    refine st_no (some 48) rfl rfl ?_
    simp only [Act.put, List.setIfInBounds_toArray, List.set_cons_zero, List.set_cons_succ]
    refine st_no (some 49) rfl rfl ?_
    simp only [Act.put, List.setIfInBounds_toArray, List.set_cons_zero, List.set_cons_succ]
    refine st_to (v := (.bool true)) (some 50) rfl rfl (ex_pkT rfl rfl rfl) ?_
    simp only [Act.put, List.setIfInBounds_toArray, List.set_cons_zero, List.set_cons_succ]
    refine st_to (v := (.bool true)) (some 51) rfl rfl (ex_mv rfl rfl) ?_
    simp only [Act.put, List.setIfInBounds_toArray, List.set_cons_zero, List.set_cons_succ]
    refine st_no (some 52) rfl rfl ?_
    simp only [Act.put, List.setIfInBounds_toArray, List.set_cons_zero, List.set_cons_succ]
    refine st_no (some 53) rfl rfl ?_
    simp only [Act.put, List.setIfInBounds_toArray, List.set_cons_zero, List.set_cons_succ]
    refine st_no (some 54) rfl rfl ?_
    simp only [Act.put, List.setIfInBounds_toArray, List.set_cons_zero, List.set_cons_succ]
    refine st_to (v := (.bool true)) (some 55) rfl rfl (ex_pkT rfl rfl rfl) ?_
    simp only [Act.put, List.setIfInBounds_toArray, List.set_cons_zero, List.set_cons_succ]
    refine st_to (v := (.bool true)) (some 56) rfl rfl (ex_mv rfl rfl) ?_
    simp only [Act.put, List.setIfInBounds_toArray, List.set_cons_zero, List.set_cons_succ]
    refine st_no (some 57) rfl rfl ?_
    simp only [Act.put, List.setIfInBounds_toArray, List.set_cons_zero, List.set_cons_succ]
    refine st_no (some 58) rfl rfl ?_
    simp only [Act.put, List.setIfInBounds_toArray, List.set_cons_zero, List.set_cons_succ]
    refine st_no (some 59) rfl rfl ?_
    simp only [Act.put, List.setIfInBounds_toArray, List.set_cons_zero, List.set_cons_succ]
    refine st_to (v := (.bool true)) (some 60) rfl rfl (ex_pkT rfl rfl rfl) ?_
    simp only [Act.put, List.setIfInBounds_toArray, List.set_cons_zero, List.set_cons_succ]
    refine st_to (v := (.bool true)) (some 61) rfl rfl (ex_mv rfl rfl) ?_
    simp only [Act.put, List.setIfInBounds_toArray, List.set_cons_zero, List.set_cons_succ]
    refine st_no (some 62) rfl rfl ?_
    simp only [Act.put, List.setIfInBounds_toArray, List.set_cons_zero, List.set_cons_succ]
    refine st_no (some 63) rfl rfl ?_
    simp only [Act.put, List.setIfInBounds_toArray, List.set_cons_zero, List.set_cons_succ]
    refine st_no (some 64) rfl rfl ?_
    simp only [Act.put, List.setIfInBounds_toArray, List.set_cons_zero, List.set_cons_succ]
    refine st_to (v := (.bool true)) (some 65) rfl rfl (ex_pkT rfl rfl rfl) ?_
    simp only [Act.put, List.setIfInBounds_toArray, List.set_cons_zero, List.set_cons_succ]
    refine st_to (v := (.bool true)) (some 66) rfl rfl (ex_mv rfl rfl) ?_
    simp only [Act.put, List.setIfInBounds_toArray, List.set_cons_zero, List.set_cons_succ]
    refine st_no (some 67) rfl rfl ?_
    simp only [Act.put, List.setIfInBounds_toArray, List.set_cons_zero, List.set_cons_succ]
    refine st_no (some 68) rfl rfl ?_
    simp only [Act.put, List.setIfInBounds_toArray, List.set_cons_zero, List.set_cons_succ]
    refine st_no (some 69) rfl rfl ?_
    simp only [Act.put, List.setIfInBounds_toArray, List.set_cons_zero, List.set_cons_succ]
    refine st_to (v := (.bool true)) (some 70) rfl rfl (ex_pkT rfl rfl rfl) ?_
    simp only [Act.put, List.setIfInBounds_toArray, List.set_cons_zero, List.set_cons_succ]
    refine st_end ?_
    subst hQ
    refine wp_cond_true rfl ?_
    refine wp_seq ?_
    refine wl_in ?_
    refine wl_cap fun Q hQ => ?_
    refine st_to (v := (.bool false)) (some 2) rfl rfl (ex_asg rfl rfl) ?_
    simp only [Act.put, List.setIfInBounds_toArray, List.set_cons_zero, List.set_cons_succ]
    refine st_end ?_
    subst hQ
    refine wp_ret ?_
    refine ret_out ?_
    refine bodyPost_ret (results_tmp Try.results13 _ _ _) rfl ⟨?_, E⟩
    show Ending.returned (.bool false) = _
    rw [decide_eq_false (by omega)]
  by_cases c2 : t.a < 0
  · skip
    have E : Below w.heap.size w w := Below.refl _ _
    go_enter Try.func13, Try.ntmps13
    refine wp_seq ?_
    refine wl_in ?_
    refine wl_cap fun Q hQ => ?_
    refine st_new (fun b => .pointer (some ⟨b, 0, none⟩)) (some 1) rfl rfl (ex_box rfl rfl) ?_
    intro b1 W1 k1 g1 B
    simp only [Act.put, List.setIfInBounds_toArray, List.set_cons_zero, List.set_cons_succ]
    have ge_b1 := Nat.le_trans E.size g1
    replace E := below_next E B
    clear B
    refine st_to (v := (.bool false)) (some 2) rfl rfl (ex_asg rfl rfl) ?_
    simp only [Act.put, List.setIfInBounds_toArray, List.set_cons_zero, List.set_cons_succ]
    refine st_end ?_
    subst hQ
    refine wp_seq ?_
    refine wp_seq ?_
    refine wl_in ?_
    refine wl_cap fun Q hQ => ?_
    refine st_to (v := (.pointer (some ⟨b1, 0, none⟩))) (some 5) rfl rfl (ex_fa (p := (.pointer (some ⟨b1, 0, none⟩))) rfl rfl (fa26_0 _ _)) ?_
    simp only [Act.put, List.setIfInBounds_toArray, List.set_cons_zero, List.set_cons_succ]
    refine st_to (v := (.int .i64 t.ch)) (some 6) rfl rfl (ex_load (p := (.pointer (some ⟨b1, 0, none⟩))) rfl rfl (ld3 (at_cell k1 hT.c0))) ?_
    simp only [Act.put, List.setIfInBounds_toArray, List.set_cons_zero, List.set_cons_succ]
    refine st_to (v := (.bool false)) (some 7) rfl rfl (ex_bin (u := (.int .i64 t.ch)) (r := (.int .i64 1)) rfl rfl rfl (eg3 _ _ _ _ _ _) (lss3 _ (decide_eq_false c0))) ?_
    simp only [Act.put, List.setIfInBounds_toArray, List.set_cons_zero, List.set_cons_succ]
    refine st_to (v := (.bool false)) (some 8) rfl rfl (ex_mv rfl rfl) ?_
    simp only [Act.put, List.setIfInBounds_toArray, List.set_cons_zero, List.set_cons_succ]
    refine st_to (v := (.pointer (some ⟨b1, 0, none⟩))) (some 9) rfl rfl (ex_fa (p := (.pointer (some ⟨b1, 0, none⟩))) rfl rfl (fa26_0 _ _)) ?_
    simp only [Act.put, List.setIfInBounds_toArray, List.set_cons_zero, List.set_cons_succ]
    refine st_to (v := (.int .i64 t.ch)) (some 10) rfl rfl (ex_load (p := (.pointer (some ⟨b1, 0, none⟩))) rfl rfl (ld3 (at_cell k1 hT.c0))) ?_
    simp only [Act.put, List.setIfInBounds_toArray, List.set_cons_zero, List.set_cons_succ]
    refine st_to (v := (.bool false)) (some 11) rfl rfl (ex_bin (u := (.int .i64 t.ch)) (r := (.int .i64 65535)) rfl rfl rfl (eg3 _ _ _ _ _ _) (gtr3 _ (decide_eq_false c1))) ?_
    simp only [Act.put, List.setIfInBounds_toArray, List.set_cons_zero, List.set_cons_succ]
    refine st_to (v := (.bool false)) (some 12) rfl rfl (ex_pkF rfl rfl rfl) ?_
    simp only [Act.put, List.setIfInBounds_toArray, List.set_cons_zero, List.set_cons_succ]
    refine st_to (v := (.bool false)) (some 13) rfl rfl (ex_mv rfl rfl) ?_
    simp only [Act.put, List.setIfInBounds_toArray, List.set_cons_zero, List.set_cons_succ]
    refine st_to (v := (.pointer (some ⟨b1, 1, none⟩))) (some 14) rfl rfl (ex_fa (p := (.pointer (some ⟨b1, 0, none⟩))) rfl rfl (fa26_1 _ _)) ?_
    simp only [Act.put, List.setIfInBounds_toArray, List.set_cons_zero, List.set_cons_succ]
    refine st_to (v := (.int .i64 t.a)) (some 15) rfl rfl (ex_load (p := (.pointer (some ⟨b1, 1, none⟩))) rfl rfl (ld3 (at_cell k1 hT.c1))) ?_
    simp only [Act.put, List.setIfInBounds_toArray, List.set_cons_zero, List.set_cons_succ]
    refine st_to (v := (.bool true)) (some 16) rfl rfl (ex_bin (u := (.int .i64 t.a)) (r := (.int .i64 0)) rfl rfl rfl (eg3 _ _ _ _ _ _) (lss3 _ (decide_eq_true c2))) ?_
    simp only [Act.put, List.setIfInBounds_toArray, List.set_cons_zero, List.set_cons_succ]
    refine st_to (v := (.bool true)) (some 17) rfl rfl (ex_pkF rfl rfl rfl) ?_
    simp only [Act.put, List.setIfInBounds_toArray, List.set_cons_zero, List.set_cons_succ]
    refine st_to (v := (.bool true)) (some 18) rfl rfl (ex_mv rfl rfl) ?_
    simp only [Act.put, List.setIfInBounds_toArray, List.set_cons_zero, List.set_cons_succ]
    refine st_no (some 19) rfl rfl ?_
    simp only [Act.put, List.setIfInBounds_toArray, List.set_cons_zero, List.set_cons_succ]
    refine st_no (some 20) rfl rfl ?_
    simp only [Act.put, List.setIfInBounds_toArray, List.set_cons_zero, List.set_cons_succ]
    refine st_no (some 21) rfl rfl ?_
    simp only [Act.put, List.setIfInBounds_toArray, List.set_cons_zero, List.set_cons_succ]
    refine st_to (v := (.bool true)) (some 22) rfl rfl (ex_pkT rfl rfl rfl) ?_
    simp only [Act.put, List.setIfInBounds_toArray, List.set_cons_zero, List.set_cons_succ]
    refine st_to (v := (.bool true)) (some 23) rfl rfl (ex_mv rfl rfl) ?_
    simp only [Act.put, List.setIfInBounds_toArray, List.set_cons_zero, List.set_cons_succ]
    refine st_no (some 24) rfl rfl ?_
    simp only [Act.put, List.setIfInBounds_toArray, List.set_cons_zero, List.set_cons_succ]
    refine st_no (some 25) rfl rfl ?_
    simp only [Act.put, List.setIfInBounds_toArray, List.set_cons_zero, List.set_cons_succ]
    refine st_no (some 26) rfl rfl ?_
    simp only [Act.put, List.setIfInBounds_toArray, List.set_cons_zero, List.set_cons_succ]
    refine st_no (some 27) rfl rfl ?_
    simp only [Act.put, List.setIfInBounds_toArray, List.set_cons_zero, List.set_cons_succ]
    refine st_no (some 28) rfl rfl ?_
    simp only [Act.put, List.setIfInBounds_toArray, List.set_cons_zero, List.set_cons_succ]
    refine st_to (v := (.bool true)) (some 29) rfl rfl (ex_pkT rfl rfl rfl) ?_
    simp only [Act.put, List.setIfInBounds_toArray, List.set_cons_zero, List.set_cons_succ]
    refine st_to (v := (.bool true)) (some 30) rfl rfl (ex_mv rfl rfl) ?_
    simp only [Act.put, List.setIfInBounds_toArray, List.set_cons_zero, List.set_cons_succ]
    refine st_no (some 31) rfl rfl ?_
    simp only [Act.put, List.setIfInBounds_toArray, List.set_cons_zero, List.set_cons_succ]
    refine st_no (some 32) rfl rfl ?_
    simp only [Act.put, List.setIfInBounds_toArray, List.set_cons_zero, List.set_cons_succ]
    refine st_no (some 33) rfl rfl ?_
    simp only [Act.put, List.setIfInBounds_toArray, List.set_cons_zero, List.set_cons_succ]
    refine st_no (some 34) rfl rfl ?_
    simp only [Act.put, List.setIfInBounds_toArray, List.set_cons_zero, List.set_cons_succ]
    refine st_to (v := (.bool true)) (some 35) rfl rfl (ex_pkT rfl rfl rfl) ?_
    simp only [Act.put, List.setIfInBounds_toArray, List.set_cons_zero, List.set_cons_succ]
    refine st_to (v := (.bool true)) (some 36) rfl rfl (ex_mv rfl rfl) ?_
    simp only [Act.put, List.setIfInBounds_toArray, List.set_cons_zero, List.set_cons_succ]
    refine st_no (some 37) rfl rfl ?_
    simp only [Act.put, List.setIfInBounds_toArray, List.set_cons_zero, List.set_cons_succ]
    refine st_no (some 38) rfl rfl ?_
    simp only [Act.put, List.setIfInBounds_toArray, List.set_cons_zero, List.set_cons_succ]
    refine st_no (some 39) rfl rfl ?_
    simp only [Act.put, List.setIfInBounds_toArray, List.set_cons_zero, List.set_cons_succ]
    refine st_to (v := (.bool true)) (some 40) rfl rfl (ex_pkT rfl rfl rfl) ?_
    simp only [Act.put, List.setIfInBounds_toArray, List.set_cons_zero, List.set_cons_succ]
    refine st_to (v := (.bool true)) (some 41) rfl rfl (ex_mv rfl rfl) ?_
    simp only [Act.put, List.setIfInBounds_toArray, List.set_cons_zero, List.set_cons_succ]
    refine st_no (some 42) rfl rfl ?_
    simp only [Act.put, List.setIfInBounds_toArray, List.set_cons_zero, List.set_cons_succ]
    refine st_no (some 43) rfl rfl ?_
    simp only [Act.put, List.setIfInBounds_toArray, List.set_cons_zero, List.set_cons_succ]
    refine st_no (some 44) rfl rfl ?_
    simp only [Act.put, List.setIfInBounds_toArray, List.set_cons_zero, List.set_cons_succ]
    refine st_to (v := (.bool true)) (some 45) rfl rfl (ex_pkT rfl rfl rfl) ?_
    simp only [Act.put, List.setIfInBounds_toArray, List.set_cons_zero, List.set_cons_succ]
    refine st_to (v := (.bool true)) (some 46) rfl rfl (ex_mv rfl rfl) ?_
    simp only [Act.put, List.setIfInBounds_toArray, List.set_cons_zero, List.set_cons_succ]
    refine st_no (some 47) rfl rfl ?_
    simp only [Act.put, List.setIfInBounds_toArray, List.set_cons_zero, List.set_cons_succ]
    refine st_no (some 48) rfl rfl ?_
    simp only [Act.put, List.setIfInBounds_toArray, List.set_cons_zero, List.set_cons_succ]
    refine st_no (some 49) rfl rfl ?_
    simp only [Act.put, List.setIfInBounds_toArray, List.set_cons_zero, List.set_cons_succ]
    refine st_to (v := (.bool true)) (some 50) rfl rfl (ex_pkT rfl rfl rfl) ?_
    simp only [Act.put, List.setIfInBounds_toArray, List.set_cons_zero, List.set_cons_succ]
    refine st_to (v := (.bool true)) (some 51) rfl rfl (ex_mv rfl rfl) ?_
    simp only [Act.put, List.setIfInBounds_toArray, List.set_cons_zero, List.set_cons_succ]
    refine st_no (some 52) rfl rfl ?_
    simp only [Act.put, List.setIfInBounds_toArray, List.set_cons_zero, List.set_cons_succ]
    refine st_no (some 53) rfl rfl ?_
    simp only [Act.put, List.setIfInBounds_toArray, List.set_cons_zero, List.set_cons_succ]
    refine st_no (some 54) rfl rfl ?_
    simp only [Act.put, List.setIfInBounds_toArray, List.set_cons_zero, List.set_cons_succ]
    refine st_to (v := (.bool true)) (some 55) rfl rfl (ex_pkT rfl rfl rfl) ?_
    simp only [Act.put, List.setIfInBounds_toArray, List.set_cons_zero, List.set_cons_succ]
    refine st_to (v := (.bool true)) (some 56) rfl rfl (ex_mv rfl rfl) ?_
    simp only [Act.put, List.setIfInBounds_toArray, List.set_cons_zero, List.set_cons_succ]
    refine st_no (some 57) rfl rfl ?_
    simp only [Act.put, List.setIfInBounds_toArray, List.set_cons_zero, List.set_cons_succ]
    refine st_no (some 58) rfl rfl ?_
    simp only [Act.put, List.setIfInBounds_toArray, List.set_cons_zero, List.set_cons_succ]
    refine st_no (some 59) rfl rfl ?_
    simp only [Act.put, List.setIfInBounds_toArray, List.set_cons_zero, List.set_cons_succ]
    refine st_to (v := (.bool true)) (some 60) rfl rfl (ex_pkT rfl rfl rfl) ?_
    simp only [Act.put, List.setIfInBounds_toArray, List.set_cons_zero, List.set_cons_succ]
    refine st_to (v := (.bool true)) (some 61) rfl rfl (ex_mv rfl rfl) ?_
    simp only [Act.put, List.setIfInBounds_toArray, List.set_cons_zero, List.set_cons_succ]
    refine st_no (some 62) rfl rfl ?_
    simp only [Act.put, List.setIfInBounds_toArray, List.set_cons_zero, List.set_cons_succ]
    refine st_no (some 63) rfl rfl ?_
    simp only [Act.put, List.setIfInBounds_toArray, List.set_cons_zero, List.set_cons_succ]
    refine st_no (some 64) rfl rfl ?_
    simp only [Act.put, List.setIfInBounds_toArray, List.set_cons_zero, List.set_cons_succ]
    refine st_to (v := (.bool true)) (some 65) rfl rfl (ex_pkT rfl rfl rfl) ?_
    simp only [Act.put, List.setIfInBounds_toArray, List.set_cons_zero, List.set_cons_succ]
    refine st_to (v := (.bool true)) (some 66) rfl rfl (ex_mv rfl rfl) ?_
    simp only [Act.put, List.setIfInBounds_toArray, List.set_cons_zero, List.set_cons_succ]
    refine st_no (some 67) rfl rfl ?_
    simp only [Act.put, List.setIfInBounds_toArray, List.set_cons_zero, List.set_cons_succ]
    refine st_no (some 68) rfl rfl ?_
    simp only [Act.put, List.setIfInBounds_toArray, List.set_cons_zero, List.set_cons_succ]
    refine st_no (some 69) rfl rfl ?_
    simp only [Act.put, List.setIfInBounds_toArray, List.set_cons_zero, List.set_cons_succ]
    refine st_to (v := (.bool true)) (some 70) rfl rfl (ex_pkT rfl rfl rfl) ?_
    simp only [Act.put, List.setIfInBounds_toArray, List.set_cons_zero, List.set_cons_succ]
    refine st_end ?_
    subst hQ
    refine wp_cond_true rfl ?_
    refine wp_seq ?_
    refine wl_in ?_
    refine wl_cap fun Q hQ => ?_
    refine st_to (v := (.bool false)) (some 2) rfl rfl (ex_asg rfl rfl) ?_
    simp only [Act.put, List.setIfInBounds_toArray, List.set_cons_zero, List.set_cons_succ]
    refine st_end ?_
    subst hQ
    refine wp_ret ?_
    refine ret_out ?_
    refine bodyPost_ret (results_tmp Try.results13 _ _ _) rfl ⟨?_, E⟩
    show Ending.returned (.bool false) = _
    rw [decide_eq_false (by omega)]
  by_cases c3 : 7 < t.b
  · skip
    have E : Below w.heap.size w w := Below.refl _ _
    go_enter Try.func13, Try.ntmps13
    refine wp_seq ?_
    refine wl_in ?_
    refine wl_cap fun Q hQ => ?_
    refine st_new (fun b => .pointer (some ⟨b, 0, none⟩)) (some 1) rfl rfl (ex_box rfl rfl) ?_
    intro b1 W1 k1 g1 B
    simp only [Act.put, List.setIfInBounds_toArray, List.set_cons_zero, List.set_cons_succ]
    have ge_b1 := Nat.le_trans E.size g1
    replace E := below_next E B
    clear B
    refine st_to (v := (.bool false)) (some 2) rfl rfl (ex_asg rfl rfl) ?_
    simp only [Act.put, List.setIfInBounds_toArray, List.set_cons_zero, List.set_cons_succ]
    refine st_end ?_
    subst hQ
    refine wp_seq ?_
    refine wp_seq ?_
    refine wl_in ?_
    refine wl_cap fun Q hQ => ?_
    refine st_to (v := (.pointer (some ⟨b1, 0, none⟩))) (some 5) rfl rfl (ex_fa (p := (.pointer (some ⟨b1, 0, none⟩))) rfl rfl (fa26_0 _ _)) ?_
    simp only [Act.put, List.setIfInBounds_toArray, List.set_cons_zero, List.set_cons_succ]
    refine st_to (v := (.int .i64 t.ch)) (some 6) rfl rfl (ex_load (p := (.pointer (some ⟨b1, 0, none⟩))) rfl rfl (ld3 (at_cell k1 hT.c0))) ?_
    simp only [Act.put, List.setIfInBounds_toArray, List.set_cons_zero, List.set_cons_succ]
    refine st_to (v := (.bool false)) (some 7) rfl rfl (ex_bin (u := (.int .i64 t.ch)) (r := (.int .i64 1)) rfl rfl rfl (eg3 _ _ _ _ _ _) (lss3 _ (decide_eq_false c0))) ?_
    simp only [Act.put, List.setIfInBounds_toArray, List.set_cons_zero, List.set_cons_succ]
    refine st_to (v := (.bool false)) (some 8) rfl rfl (ex_mv rfl rfl) ?_
    simp only [Act.put, List.setIfInBounds_toArray, List.set_cons_zero, List.set_cons_succ]
    refine st_to (v := (.pointer (some ⟨b1, 0, none⟩))) (some 9) rfl rfl (ex_fa (p := (.pointer (some ⟨b1, 0, none⟩))) rfl rfl (fa26_0 _ _)) ?_
    simp only [Act.put, List.setIfInBounds_toArray, List.set_cons_zero, List.set_cons_succ]
    refine st_to (v := (.int .i64 t.ch)) (some 10) rfl rfl (ex_load (p := (.pointer (some ⟨b1, 0, none⟩))) rfl rfl (ld3 (at_cell k1 hT.c0))) ?_
    simp only [Act.put, List.setIfInBounds_toArray, List.set_cons_zero, List.set_cons_succ]
    refine st_to (v := (.bool false)) (some 11) rfl rfl (ex_bin (u := (.int .i64 t.ch)) (r := (.int .i64 65535)) rfl rfl rfl (eg3 _ _ _ _ _ _) (gtr3 _ (decide_eq_false c1))) ?_
    simp only [Act.put, List.setIfInBounds_toArray, List.set_cons_zero, List.set_cons_succ]
    refine st_to (v := (.bool false)) (some 12) rfl rfl (ex_pkF rfl rfl rfl) ?_
    simp only [Act.put, List.setIfInBounds_toArray, List.set_cons_zero, List.set_cons_succ]
    refine st_to (v := (.bool false)) (some 13) rfl rfl (ex_mv rfl rfl) ?_
    simp only [Act.put, List.setIfInBounds_toArray, List.set_cons_zero, List.set_cons_succ]
    refine st_to (v := (.pointer (some ⟨b1, 1, none⟩))) (some 14) rfl rfl (ex_fa (p := (.pointer (some ⟨b1, 0, none⟩))) rfl rfl (fa26_1 _ _)) ?_
    simp only [Act.put, List.setIfInBounds_toArray, List.set_cons_zero, List.set_cons_succ]
    refine st_to (v := (.int .i64 t.a)) (some 15) rfl rfl (ex_load (p := (.pointer (some ⟨b1, 1, none⟩))) rfl rfl (ld3 (at_cell k1 hT.c1))) ?_
    simp only [Act.put, List.setIfInBounds_toArray, List.set_cons_zero, List.set_cons_succ]
    refine st_to (v := (.bool false)) (some 16) rfl rfl (ex_bin (u := (.int .i64 t.a)) (r := (.int .i64 0)) rfl rfl rfl (eg3 _ _ _ _ _ _) (lss3 _ (decide_eq_false c2))) ?_
    simp only [Act.put, List.setIfInBounds_toArray, List.set_cons_zero, List.set_cons_succ]
    refine st_to (v := (.bool false)) (some 17) rfl rfl (ex_pkF rfl rfl rfl) ?_
    simp only [Act.put, List.setIfInBounds_toArray, List.set_cons_zero, List.set_cons_succ]
    refine st_to (v := (.bool false)) (some 18) rfl rfl (ex_mv rfl rfl) ?_
    simp only [Act.put, List.setIfInBounds_toArray, List.set_cons_zero, List.set_cons_succ]
    refine st_to (v := (.pointer (some ⟨b1, 2, none⟩))) (some 19) rfl rfl (ex_fa (p := (.pointer (some ⟨b1, 0, none⟩))) rfl rfl (fa26_2 _ _)) ?_
    simp only [Act.put, List.setIfInBounds_toArray, List.set_cons_zero, List.set_cons_succ]
    refine st_to (v := (.int .i64 t.b)) (some 20) rfl rfl (ex_load (p := (.pointer (some ⟨b1, 2, none⟩))) rfl rfl (ld3 (at_cell k1 hT.c2))) ?_
    simp only [Act.put, List.setIfInBounds_toArray, List.set_cons_zero, List.set_cons_succ]
    refine st_to (v := (.bool true)) (some 21) rfl rfl (ex_bin (u := (.int .i64 t.b)) (r := (.int .i64 7)) rfl rfl rfl (eg3 _ _ _ _ _ _) (gtr3 _ (decide_eq_true c3))) ?_
    simp only [Act.put, List.setIfInBounds_toArray, List.set_cons_zero, List.set_cons_succ]
    refine st_to (v := (.bool true)) (some 22) rfl rfl (ex_pkF rfl rfl rfl) ?_
    simp only [Act.put, List.setIfInBounds_toArray, List.set_cons_zero, List.set_cons_succ]
    refine st_to (v := (.bool true)) (some 23) rfl rfl (ex_mv rfl rfl) ?_
    simp only [Act.put, List.setIfInBounds_toArray, List.set_cons_zero, List.set_cons_succ]
    refine st_no (some 24) rfl rfl ?_
    simp only [Act.put, List.setIfInBounds_toArray, List.set_cons_zero, List.set_cons_succ]
    refine st_no (some 25) rfl rfl ?_
    simp only [Act.put, List.setIfInBounds_toArray, List.set_cons_zero, List.set_cons_succ]
    refine st_no (some 26) rfl rfl ?_
    simp only [Act.put, List.setIfInBounds_toArray, List.set_cons_zero, List.set_cons_succ]
    refine st_no (some 27) rfl rfl ?_
    simp only [Act.put, List.setIfInBounds_toArray, List.set_cons_zero, List.set_cons_succ]
    refine st_no (some 28) rfl rfl ?_
    simp only [Act.put, List.setIfInBounds_toArray, List.set_cons_zero, List.set_cons_succ]
    refine st_to (v := (.bool true)) (some 29) rfl rfl (ex_pkT rfl rfl rfl) ?_
    simp only [Act.put, List.setIfInBounds_toArray, List.set_cons_zero, List.set_cons_succ]
    refine st_to (v := (.bool true)) (some 30) rfl rfl (ex_mv rfl rfl) ?_
    simp only [Act.put, List.setIfInBounds_toArray, List.set_cons_zero, List.set_cons_succ]
    refine st_no (some 31) rfl rfl ?_
    simp only [Act.put, List.setIfInBounds_toArray, List.set_cons_zero, List.set_cons_succ]
    refine st_no (some 32) rfl rfl ?_
    simp only [Act.put, List.setIfInBounds_toArray, List.set_cons_zero, List.set_cons_succ]
    refine st_no (some 33) rfl rfl ?_
    simp only [Act.put, List.setIfInBounds_toArray, List.set_cons_zero, List.set_cons_succ]
    refine st_no (some 34) rfl rfl ?_
    simp only [Act.put, List.setIfInBounds_toArray, List.set_cons_zero, List.set_cons_succ]
    refine st_to (v := (.bool true)) (some 35) rfl rfl (ex_pkT rfl rfl rfl) ?_
    simp only [Act.put, List.setIfInBounds_toArray, List.set_cons_zero, List.set_cons_succ]
    refine st_to (v := (.bool true)) (some 36) rfl rfl (ex_mv rfl rfl) ?_
    simp only [Act.put, List.setIfInBounds_toArray, List.set_cons_zero, List.set_cons_succ]
    refine st_no (some 37) rfl rfl ?_
    simp only [Act.put, List.setIfInBounds_toArray, List.set_cons_zero, List.set_cons_succ]
    refine st_no (some 38) rfl rfl ?_
    simp only [Act.put, List.setIfInBounds_toArray, List.set_cons_zero, List.set_cons_succ]
    refine st_no (some 39) rfl rfl ?_
    simp only [Act.put, List.setIfInBounds_toArray, List.set_cons_zero, List.set_cons_succ]
    refine st_to (v := (.bool true)) (some 40) rfl rfl (ex_pkT rfl rfl rfl) ?_
    simp only [Act.put, List.setIfInBounds_toArray, List.set_cons_zero, List.set_cons_succ]
    refine st_to (v := (.bool true)) (some 41) rfl rfl (ex_mv rfl rfl) ?_
    simp only [Act.put, List.setIfInBounds_toArray, List.set_cons_zero, List.set_cons_succ]
    refine st_no (some 42) rfl rfl ?_
    simp only [Act.put, List.setIfInBounds_toArray, List.set_cons_zero, List.set_cons_succ]
    refine st_no (some 43) rfl rfl ?_
    simp only [Act.put, List.setIfInBounds_toArray, List.set_cons_zero, List.set_cons_succ]
    refine st_no (some 44) rfl rfl ?_
    simp only [Act.put, List.setIfInBounds_toArray, List.set_cons_zero, List.set_cons_succ]
    refine st_to (v := (.bool true)) (some 45) rfl rfl (ex_pkT rfl rfl rfl) ?_
    simp only [Act.put, List.setIfInBounds_toArray, List.set_cons_zero, List.set_cons_succ]
    refine st_to (v := (.bool true)) (some 46) rfl rfl (ex_mv rfl rfl) ?_
    simp only [Act.put, List.setIfInBounds_toArray, List.set_cons_zero, List.set_cons_succ]
    refine st_no (some 47) rfl rfl ?_
    simp only [Act.put, List.setIfInBounds_toArray, List.set_cons_zero, List.set_cons_succ]
    refine st_no (some 48) rfl rfl ?_
    simp only [Act.put, List.setIfInBounds_toArray, List.set_cons_zero, List.set_cons_succ]
    refine st_no (some 49) rfl rfl ?_
    simp only [Act.put, List.setIfInBounds_toArray, List.set_cons_zero, List.set_cons_succ]
    refine st_to (v := (.bool true)) (some 50) rfl rfl (ex_pkT rfl rfl rfl) ?_
    simp only [Act.put, List.setIfInBounds_toArray, List.set_cons_zero, List.set_cons_succ]
    refine st_to (v := (.bool true)) (some 51) rfl rfl (ex_mv rfl rfl) ?_
    simp only [Act.put, List.setIfInBounds_toArray, List.set_cons_zero, List.set_cons_succ]
    refine st_no (some 52) rfl rfl ?_
    simp only [Act.put, List.setIfInBounds_toArray, List.set_cons_zero, List.set_cons_succ]
    refine st_no (some 53) rfl rfl ?_
    simp only [Act.put, List.setIfInBounds_toArray, List.set_cons_zero, List.set_cons_succ]
    refine st_no (some 54) rfl rfl ?_
    simp only [Act.put, List.setIfInBounds_toArray, List.set_cons_zero, List.set_cons_succ]
    refine st_to (v := (.bool true)) (some 55) rfl rfl (ex_pkT rfl rfl rfl) ?_
    simp only [Act.put, List.setIfInBounds_toArray, List.set_cons_zero, List.set_cons_succ]
    refine st_to (v := (.bool true)) (some 56) rfl rfl (ex_mv rfl rfl) ?_
    simp only [Act.put, List.setIfInBounds_toArray, List.set_cons_zero, List.set_cons_succ]
    refine st_no (some 57) rfl rfl ?_
    simp only [Act.put, List.setIfInBounds_toArray, List.set_cons_zero, List.set_cons_succ]
    refine st_no (some 58) rfl rfl ?_
    simp only [Act.put, List.setIfInBounds_toArray, List.set_cons_zero, List.set_cons_succ]
    refine st_no (some 59) rfl rfl ?_
    simp only [Act.put, List.setIfInBounds_toArray, List.set_cons_zero, List.set_cons_succ]
    refine st_to (v := (.bool true)) (some 60) rfl rfl (ex_pkT rfl rfl rfl) ?_
    simp only [Act.put, List.setIfInBounds_toArray, List.set_cons_zero, List.set_cons_succ]
    refine st_to (v := (.bool true)) (some 61) rfl rfl (ex_mv rfl rfl) ?_
    simp only [Act.put, List.setIfInBounds_toArray, List.set_cons_zero, List.set_cons_succ]
    refine st_no (some 62) rfl rfl ?_
    simp only [Act.put, List.setIfInBounds_toArray, List.set_cons_zero, List.set_cons_succ]
    refine st_no (some 63) rfl rfl ?_
    simp only [Act.put, List.setIfInBounds_toArray, List.set_cons_zero, List.set_cons_succ]
    refine st_no (some 64) rfl rfl ?_
    simp only [Act.put, List.setIfInBounds_toArray, List.set_cons_zero, List.set_cons_succ]
    refine st_to (v := (.bool true)) (some 65) rfl rfl (ex_pkT rfl rfl rfl) ?_
    simp only [Act.put, List.setIfInBounds_toArray, List.set_cons_zero, List.set_cons_succ]
    refine st_to (v := (.bool true)) (some 66) rfl rfl (ex_mv rfl rfl) ?_
    simp only [Act.put, List.setIfInBounds_toArray, List.set_cons_zero, List.set_cons_succ]
    refine st_no (some 67) rfl rfl ?_
    simp only [Act.put, List.setIfInBounds_toArray, List.set_cons_zero, List.set_cons_succ]
    refine st_no (some 68) rfl rfl ?_
    simp only [Act.put, List.setIfInBounds_toArray, List.set_cons_zero, List.set_cons_succ]
    refine st_no (some 69) rfl rfl ?_
    simp only [Act.put, List.setIfInBounds_toArray, List.set_cons_zero, List.set_cons_succ]
    refine st_to (v := (.bool true)) (some 70) rfl rfl (ex_pkT rfl rfl rfl) ?_
    simp only [Act.put, List.setIfInBounds_toArray, List.set_cons_zero, List.set_cons_succ]
    refine st_end ?_
    subst hQ
    refine wp_cond_true rfl ?_
    refine wp_seq ?_
    refine wl_in ?_
    refine wl_cap fun Q hQ => ?_
    refine st_to (v := (.bool false)) (some 2) rfl rfl (ex_asg rfl rfl) ?_
    simp only [Act.put, List.setIfInBounds_toArray, List.set_cons_zero, List.set_cons_succ]
    refine st_end ?_
    subst hQ
    refine wp_ret ?_
    refine ret_out ?_
    refine bodyPost_ret (results_tmp Try.results13 _ _ _) rfl ⟨?_, E⟩
    show Ending.returned (.bool false) = _
    rw [decide_eq_false (by omega)]
  by_cases c4 : t.b ≤ t.a
  · skip
    have E : Below w.heap.size w w := Below.refl _ _
    go_enter Try.func13, Try.ntmps13
    refine wp_seq ?_
    refine wl_in ?_
    refine wl_cap fun Q hQ => ?_
    refine st_new (fun b => .pointer (some ⟨b, 0, none⟩)) (some 1) rfl rfl (ex_box rfl rfl) ?_
    intro b1 W1 k1 g1 B
    simp only [Act.put, List.setIfInBounds_toArray, List.set_cons_zero, List.set_cons_succ]
    have ge_b1 := Nat.le_trans E.size g1
    replace E := below_next E B
    clear B
    refine st_to (v := (.bool false)) (some 2) rfl rfl (ex_asg rfl rfl) ?_
    simp only [Act.put, List.setIfInBounds_toArray, List.set_cons_zero, List.set_cons_succ]
    refine st_end ?_
    subst hQ
    refine wp_seq ?_
    refine wp_seq ?_
    refine wl_in ?_
    refine wl_cap fun Q hQ => ?_
    refine st_to (v := (.pointer (some ⟨b1, 0, none⟩))) (some 5) rfl rfl (ex_fa (p := (.pointer (some ⟨b1, 0, none⟩))) rfl rfl (fa26_0 _ _)) ?_
    simp only [Act.put, List.setIfInBounds_toArray, List.set_cons_zero, List.set_cons_succ]
    refine st_to (v := (.int .i64 t.ch)) (some 6) rfl rfl (ex_load (p := (.pointer (some ⟨b1, 0, none⟩))) rfl rfl (ld3 (at_cell k1 hT.c0))) ?_
    simp only [Act.put, List.setIfInBounds_toArray, List.set_cons_zero, List.set_cons_succ]
    refine st_to (v := (.bool false)) (some 7) rfl rfl (ex_bin (u := (.int .i64 t.ch)) (r := (.int .i64 1)) rfl rfl rfl (eg3 _ _ _ _ _ _) (lss3 _ (decide_eq_false c0))) ?_
    simp only [Act.put, List.setIfInBounds_toArray, List.set_cons_zero, List.set_cons_succ]
    refine st_to (v := (.bool false)) (some 8) rfl rfl (ex_mv rfl rfl) ?_
    simp only [Act.put, List.setIfInBounds_toArray, List.set_cons_zero, List.set_cons_succ]
    refine st_to (v := (.pointer (some ⟨b1, 0, none⟩))) (some 9) rfl rfl (ex_fa (p := (.pointer (some ⟨b1, 0, none⟩))) rfl rfl (fa26_0 _ _)) ?_
    simp only [Act.put, List.setIfInBounds_toArray, List.set_cons_zero, List.set_cons_succ]
    refine st_to (v := (.int .i64 t.ch)) (some 10) rfl rfl (ex_load (p := (.pointer (some ⟨b1, 0, none⟩))) rfl rfl (ld3 (at_cell k1 hT.c0))) ?_
    simp only [Act.put, List.setIfInBounds_toArray, List.set_cons_zero, List.set_cons_succ]
    refine st_to (v := (.bool false)) (some 11) rfl rfl (ex_bin (u := (.int .i64 t.ch)) (r := (.int .i64 65535)) rfl rfl rfl (eg3 _ _ _ _ _ _) (gtr3 _ (decide_eq_false c1))) ?_
    simp only [Act.put, List.setIfInBounds_toArray, List.set_cons_zero, List.set_cons_succ]
    refine st_to (v := (.bool false)) (some 12) rfl rfl (ex_pkF rfl rfl rfl) ?_
    simp only [Act.put, List.setIfInBounds_toArray, List.set_cons_zero, List.set_cons_succ]
    refine st_to (v := (.bool false)) (some 13) rfl rfl (ex_mv rfl rfl) ?_
    simp only [Act.put, List.setIfInBounds_toArray, List.set_cons_zero, List.set_cons_succ]
    refine st_to (v := (.pointer (some ⟨b1, 1, none⟩))) (some 14) rfl rfl (ex_fa (p := (.pointer (some ⟨b1, 0, none⟩))) rfl rfl (fa26_1 _ _)) ?_
    simp only [Act.put, List.setIfInBounds_toArray, List.set_cons_zero, List.set_cons_succ]
    refine st_to (v := (.int .i64 t.a)) (some 15) rfl rfl (ex_load (p := (.pointer (some ⟨b1, 1, none⟩))) rfl rfl (ld3 (at_cell k1 hT.c1))) ?_
    simp only [Act.put, List.setIfInBounds_toArray, List.set_cons_zero, List.set_cons_succ]
    refine st_to (v := (.bool false)) (some 16) rfl rfl (ex_bin (u := (.int .i64 t.a)) (r := (.int .i64 0)) rfl rfl rfl (eg3 _ _ _ _ _ _) (lss3 _ (decide_eq_false c2))) ?_
    simp only [Act.put, List.setIfInBounds_toArray, List.set_cons_zero, List.set_cons_succ]
    refine st_to (v := (.bool false)) (some 17) rfl rfl (ex_pkF rfl rfl rfl) ?_
    simp only [Act.put, List.setIfInBounds_toArray, List.set_cons_zero, List.set_cons_succ]
    refine st_to (v := (.bool false)) (some 18) rfl rfl (ex_mv rfl rfl) ?_
    simp only [Act.put, List.setIfInBounds_toArray, List.set_cons_zero, List.set_cons_succ]
    refine st_to (v := (.pointer (some ⟨b1, 2, none⟩))) (some 19) rfl rfl (ex_fa (p := (.pointer (some ⟨b1, 0, none⟩))) rfl rfl (fa26_2 _ _)) ?_
    simp only [Act.put, List.setIfInBounds_toArray, List.set_cons_zero, List.set_cons_succ]
    refine st_to (v := (.int .i64 t.b)) (some 20) rfl rfl (ex_load (p := (.pointer (some ⟨b1, 2, none⟩))) rfl rfl (ld3 (at_cell k1 hT.c2))) ?_
    simp only [Act.put, List.setIfInBounds_toArray, List.set_cons_zero, List.set_cons_succ]
    refine st_to (v := (.bool false)) (some 21) rfl rfl (ex_bin (u := (.int .i64 t.b)) (r := (.int .i64 7)) rfl rfl rfl (eg3 _ _ _ _ _ _) (gtr3 _ (decide_eq_false c3))) ?_
    simp only [Act.put, List.setIfInBounds_toArray, List.set_cons_zero, List.set_cons_succ]
    refine st_to (v := (.bool false)) (some 22) rfl rfl (ex_pkF rfl rfl rfl) ?_
    simp only [Act.put, List.setIfInBounds_toArray, List.set_cons_zero, List.set_cons_succ]
    refine st_to (v := (.bool false)) (some 23) rfl rfl (ex_mv rfl rfl) ?_
    simp only [Act.put, List.setIfInBounds_toArray, List.set_cons_zero, List.set_cons_succ]
    refine st_to (v := (.pointer (some ⟨b1, 1, none⟩))) (some 24) rfl rfl (ex_fa (p := (.pointer (some ⟨b1, 0, none⟩))) rfl rfl (fa26_1 _ _)) ?_
    simp only [Act.put, List.setIfInBounds_toArray, List.set_cons_zero, List.set_cons_succ]
    refine st_to (v := (.int .i64 t.a)) (some 25) rfl rfl (ex_load (p := (.pointer (some ⟨b1, 1, none⟩))) rfl rfl (ld3 (at_cell k1 hT.c1))) ?_
    simp only [Act.put, List.setIfInBounds_toArray, List.set_cons_zero, List.set_cons_succ]
    refine st_to (v := (.pointer (some ⟨b1, 2, none⟩))) (some 26) rfl rfl (ex_fa (p := (.pointer (some ⟨b1, 0, none⟩))) rfl rfl (fa26_2 _ _)) ?_
    simp only [Act.put, List.setIfInBounds_toArray, List.set_cons_zero, List.set_cons_succ]
    refine st_to (v := (.int .i64 t.b)) (some 27) rfl rfl (ex_load (p := (.pointer (some ⟨b1, 2, none⟩))) rfl rfl (ld3 (at_cell k1 hT.c2))) ?_
    simp only [Act.put, List.setIfInBounds_toArray, List.set_cons_zero, List.set_cons_succ]
    refine st_to (v := (.bool true)) (some 28) rfl rfl (ex_bin (u := (.int .i64 t.a)) (r := (.int .i64 t.b)) rfl rfl rfl (eg3 _ _ _ _ _ _) (geq3 _ (decide_eq_true c4))) ?_
    simp only [Act.put, List.setIfInBounds_toArray, List.set_cons_zero, List.set_cons_succ]
    refine st_to (v := (.bool true)) (some 29) rfl rfl (ex_pkF rfl rfl rfl) ?_
    simp only [Act.put, List.setIfInBounds_toArray, List.set_cons_zero, List.set_cons_succ]
    refine st_to (v := (.bool true)) (some 30) rfl rfl (ex_mv rfl rfl) ?_
    simp only [Act.put, List.setIfInBounds_toArray, List.set_cons_zero, List.set_cons_succ]
    refine st_no (some 31) rfl rfl ?_
    simp only [Act.put, List.setIfInBounds_toArray, List.set_cons_zero, List.set_cons_succ]
    refine st_no (some 32) rfl rfl ?_
    simp only [Act.put, List.setIfInBounds_toArray, List.set_cons_zero, List.set_cons_succ]
    refine st_no (some 33) rfl rfl ?_
    simp only [Act.put, List.setIfInBounds_toArray, List.set_cons_zero, List.set_cons_succ]
    refine st_no (some 34) rfl rfl ?_
    simp only [Act.put, List.setIfInBounds_toArray, List.set_cons_zero, List.set_cons_succ]
    refine st_to (v := (.bool true)) (some 35) rfl rfl (ex_pkT rfl rfl rfl) ?_
    simp only [Act.put, List.setIfInBounds_toArray, List.set_cons_zero, List.set_cons_succ]
    refine st_to (v := (.bool true)) (some 36) rfl rfl (ex_mv rfl rfl) ?_
    simp only [Act.put, List.setIfInBounds_toArray, List.set_cons_zero, List.set_cons_succ]
    refine st_no (some 37) rfl rfl ?_
    simp only [Act.put, List.setIfInBounds_toArray, List.set_cons_zero, List.set_cons_succ]
    refine st_no (some 38) rfl rfl ?_
    simp only [Act.put, List.setIfInBounds_toArray, List.set_cons_zero, List.set_cons_succ]
    refine st_no (some 39) rfl rfl ?_
    simp only [Act.put, List.setIfInBounds_toArray, List.set_cons_zero, List.set_cons_succ]
    refine st_to (v := (.bool true)) (some 40) rfl rfl (ex_pkT rfl rfl rfl) ?_
    simp only [Act.put, List.setIfInBounds_toArray, List.set_cons_zero, List.set_cons_succ]
    refine st_to (v := (.bool true)) (some 41) rfl rfl (ex_mv rfl rfl) ?_
    simp only [Act.put, List.setIfInBounds_toArray, List.set_cons_zero, List.set_cons_succ]
    refine st_no (some 42) rfl rfl ?_
    simp only [Act.put, List.setIfInBounds_toArray, List.set_cons_zero, List.set_cons_succ]
    refine st_no (some 43) rfl rfl ?_
    simp only [Act.put, List.setIfInBounds_toArray, List.set_cons_zero, List.set_cons_succ]
    refine st_no (some 44) rfl rfl ?_
    simp only [Act.put, List.setIfInBounds_toArray, List.set_cons_zero, List.set_cons_succ]
    refine st_to (v := (.bool true)) (some 45) rfl rfl (ex_pkT rfl rfl rfl) ?_
    simp only [Act.put, List.setIfInBounds_toArray, List.set_cons_zero, List.set_cons_succ]
    refine st_to (v := (.bool true)) (some 46) rfl rfl (ex_mv rfl rfl) ?_
    simp only [Act.put, List.setIfInBounds_toArray, List.set_cons_zero, List.set_cons_succ]
    refine st_no (some 47) rfl rfl ?_
    simp only [Act.put, List.setIfInBounds_toArray, List.set_cons_zero, List.set_cons_succ]
    refine st_no (some 48) rfl rfl ?_
    simp only [Act.put, List.setIfInBounds_toArray, List.set_cons_zero, List.set_cons_succ]
    refine st_no (some 49) rfl rfl ?_
    simp only [Act.put, List.setIfInBounds_toArray, List.set_cons_zero, List.set_cons_succ]
    refine st_to (v := (.bool true)) (some 50) rfl rfl (ex_pkT rfl rfl rfl) ?_
    simp only [Act.put, List.setIfInBounds_toArray, List.set_cons_zero, List.set_cons_succ]
    refine st_to (v := (.bool true)) (some 51) rfl rfl (ex_mv rfl rfl) ?_
    simp only [Act.put, List.setIfInBounds_toArray, List.set_cons_zero, List.set_cons_succ]
    refine st_no (some 52) rfl rfl ?_
    simp only [Act.put, List.setIfInBounds_toArray, List.set_cons_zero, List.set_cons_succ]
    refine st_no (some 53) rfl rfl ?_
    simp only [Act.put, List.setIfInBounds_toArray, List.set_cons_zero, List.set_cons_succ]
    refine st_no (some 54) rfl rfl ?_
    simp only [Act.put, List.setIfInBounds_toArray, List.set_cons_zero, List.set_cons_succ]
    refine st_to (v := (.bool true)) (some 55) rfl rfl (ex_pkT rfl rfl rfl) ?_
    simp only [Act.put, List.setIfInBounds_toArray, List.set_cons_zero, List.set_cons_succ]
    refine st_to (v := (.bool true)) (some 56) rfl rfl (ex_mv rfl rfl) ?_
    simp only [Act.put, List.setIfInBounds_toArray, List.set_cons_zero, List.set_cons_succ]
    refine st_no (some 57) rfl rfl ?_
    simp only [Act.put, List.setIfInBounds_toArray, List.set_cons_zero, List.set_cons_succ]
    refine st_no (some 58) rfl rfl ?_
    simp only [Act.put, List.setIfInBounds_toArray, List.set_cons_zero, List.set_cons_succ]
    refine st_no (some 59) rfl rfl ?_
    simp only [Act.put, List.setIfInBounds_toArray, List.set_cons_zero, List.set_cons_succ]
    refine st_to (v := (.bool true)) (some 60) rfl rfl (ex_pkT rfl rfl rfl) ?_
    simp only [Act.put, List.setIfInBounds_toArray, List.set_cons_zero, List.set_cons_succ]
    refine st_to (v := (.bool true)) (some 61) rfl rfl (ex_mv rfl rfl) ?_
    simp only [Act.put, List.setIfInBounds_toArray, List.set_cons_zero, List.set_cons_succ]
    refine st_no (some 62) rfl rfl ?_
    simp only [Act.put, List.setIfInBounds_toArray, List.set_cons_zero, List.set_cons_succ]
    refine st_no (some 63) rfl rfl ?_
    simp only [Act.put, List.setIfInBounds_toArray, List.set_cons_zero, List.set_cons_succ]
    refine st_no (some 64) rfl rfl ?_
    simp only [Act.put, List.setIfInBounds_toArray, List.set_cons_zero, List.set_cons_succ]
    refine st_to (v := (.bool true)) (some 65) rfl rfl (ex_pkT rfl rfl rfl) ?_
    simp only [Act.put, List.setIfInBounds_toArray, List.set_cons_zero, List.set_cons_succ]
    refine st_to (v := (.bool true)) (some 66) rfl rfl (ex_mv rfl rfl) ?_
    simp only [Act.put, List.setIfInBounds_toArray, List.set_cons_zero, List.set_cons_succ]
    refine st_no (some 67) rfl rfl ?_
    simp only [Act.put, List.setIfInBounds_toArray, List.set_cons_zero, List.set_cons_succ]
    refine st_no (some 68) rfl rfl ?_
    simp only [Act.put, List.setIfInBounds_toArray, List.set_cons_zero, List.set_cons_succ]
    refine st_no (some 69) rfl rfl ?_
    simp only [Act.put, List.setIfInBounds_toArray, List.set_cons_zero, List.set_cons_succ]
    refine st_to (v := (.bool true)) (some 70) rfl rfl (ex_pkT rfl rfl rfl) ?_
    simp only [Act.put, List.setIfInBounds_toArray, List.set_cons_zero, List.set_cons_succ]
    refine st_end ?_
    subst hQ
    refine wp_cond_true rfl ?_
    refine wp_seq ?_
    refine wl_in ?_
    refine wl_cap fun Q hQ => ?_
    refine st_to (v := (.bool false)) (some 2) rfl rfl (ex_asg rfl rfl) ?_
    simp only [Act.put, List.setIfInBounds_toArray, List.set_cons_zero, List.set_cons_succ]
    refine st_end ?_
    subst hQ
    refine wp_ret ?_
    refine ret_out ?_
    refine bodyPost_ret (results_tmp Try.results13 _ _ _) rfl ⟨?_, E⟩
    show Ending.returned (.bool false) = _
    rw [decide_eq_false (by omega)]
  by_cases c5 : t.fo < 0
  · skip
    have E : Below w.heap.size w w := Below.refl _ _
    go_enter Try.func13, Try.ntmps13
    refine wp_seq ?_
    refine wl_in ?_
    refine wl_cap fun Q hQ => ?_
    refine st_new (fun b => .pointer (some ⟨b, 0, none⟩)) (some 1) rfl rfl (ex_box rfl rfl) ?_
    intro b1 W1 k1 g1 B
    simp only [Act.put, List.setIfInBounds_toArray, List.set_cons_zero, List.set_cons_succ]
    have ge_b1 := Nat.le_trans E.size g1
    replace E := below_next E B
    clear B
    refine st_to (v := (.bool false)) (some 2) rfl rfl (ex_asg rfl rfl) ?_
    simp only [Act.put, List.setIfInBounds_toArray, List.set_cons_zero, List.set_cons_succ]
    refine st_end ?_
    subst hQ
    refine wp_seq ?_
    refine wp_seq ?_
    refine wl_in ?_
    refine wl_cap fun Q hQ => ?_
    refine st_to (v := (.pointer (some ⟨b1, 0, none⟩))) (some 5) rfl rfl (ex_fa (p := (.pointer (some ⟨b1, 0, none⟩))) rfl rfl (fa26_0 _ _)) ?_
    simp only [Act.put, List.setIfInBounds_toArray, List.set_cons_zero, List.set_cons_succ]
    refine st_to (v := (.int .i64 t.ch)) (some 6) rfl rfl (ex_load (p := (.pointer (some ⟨b1, 0, none⟩))) rfl rfl (ld3 (at_cell k1 hT.c0))) ?_
    simp only [Act.put, List.setIfInBounds_toArray, List.set_cons_zero, List.set_cons_succ]
    refine st_to (v := (.bool false)) (some 7) rfl rfl (ex_bin (u := (.int .i64 t.ch)) (r := (.int .i64 1)) rfl rfl rfl (eg3 _ _ _ _ _ _) (lss3 _ (decide_eq_false c0))) ?_
    simp only [Act.put, List.setIfInBounds_toArray, List.set_cons_zero, List.set_cons_succ]
    refine st_to (v := (.bool false)) (some 8) rfl rfl (ex_mv rfl rfl) ?_
    simp only [Act.put, List.setIfInBounds_toArray, List.set_cons_zero, List.set_cons_succ]
    refine st_to (v := (.pointer (some ⟨b1, 0, none⟩))) (some 9) rfl rfl (ex_fa (p := (.pointer (some ⟨b1, 0, none⟩))) rfl rfl (fa26_0 _ _)) ?_
    simp only [Act.put, List.setIfInBounds_toArray, List.set_cons_zero, List.set_cons_succ]
    refine st_to (v := (.int .i64 t.ch)) (some 10) rfl rfl (ex_load (p := (.pointer (some ⟨b1, 0, none⟩))) rfl rfl (ld3 (at_cell k1 hT.c0))) ?_
    simp only [Act.put, List.setIfInBounds_toArray, List.set_cons_zero, List.set_cons_succ]
    refine st_to (v := (.bool false)) (some 11) rfl rfl (ex_bin (u := (.int .i64 t.ch)) (r := (.int .i64 65535)) rfl rfl rfl (eg3 _ _ _ _ _ _) (gtr3 _ (decide_eq_false c1))) ?_
    simp only [Act.put, List.setIfInBounds_toArray, List.set_cons_zero, List.set_cons_succ]
    refine st_to (v := (.bool false)) (some 12) rfl rfl (ex_pkF rfl rfl rfl) ?_
    simp only [Act.put, List.setIfInBounds_toArray, List.set_cons_zero, List.set_cons_succ]
    refine st_to (v := (.bool false)) (some 13) rfl rfl (ex_mv rfl rfl) ?_
    simp only [Act.put, List.setIfInBounds_toArray, List.set_cons_zero, List.set_cons_succ]
    refine st_to (v := (.pointer (some ⟨b1, 1, none⟩))) (some 14) rfl rfl (ex_fa (p := (.pointer (some ⟨b1, 0, none⟩))) rfl rfl (fa26_1 _ _)) ?_
    simp only [Act.put, List.setIfInBounds_toArray, List.set_cons_zero, List.set_cons_succ]
    refine st_to (v := (.int .i64 t.a)) (some 15) rfl rfl (ex_load (p := (.pointer (some ⟨b1, 1, none⟩))) rfl rfl (ld3 (at_cell k1 hT.c1))) ?_
    simp only [Act.put, List.setIfInBounds_toArray, List.set_cons_zero, List.set_cons_succ]
    refine st_to (v := (.bool false)) (some 16) rfl rfl (ex_bin (u := (.int .i64 t.a)) (r := (.int .i64 0)) rfl rfl rfl (eg3 _ _ _ _ _ _) (lss3 _ (decide_eq_false c2))) ?_
    simp only [Act.put, List.setIfInBounds_toArray, List.set_cons_zero, List.set_cons_succ]
    refine st_to (v := (.bool false)) (some 17) rfl rfl (ex_pkF rfl rfl rfl) ?_
    simp only [Act.put, List.setIfInBounds_toArray, List.set_cons_zero, List.set_cons_succ]
    refine st_to (v := (.bool false)) (some 18) rfl rfl (ex_mv rfl rfl) ?_
    simp only [Act.put, List.setIfInBounds_toArray, List.set_cons_zero, List.set_cons_succ]
    refine st_to (v := (.pointer (some ⟨b1, 2, none⟩))) (some 19) rfl rfl (ex_fa (p := (.pointer (some ⟨b1, 0, none⟩))) rfl rfl (fa26_2 _ _)) ?_
    simp only [Act.put, List.setIfInBounds_toArray, List.set_cons_zero, List.set_cons_succ]
    refine st_to (v := (.int .i64 t.b)) (some 20) rfl rfl (ex_load (p := (.pointer (some ⟨b1, 2, none⟩))) rfl rfl (ld3 (at_cell k1 hT.c2))) ?_
    simp only [Act.put, List.setIfInBounds_toArray, List.set_cons_zero, List.set_cons_succ]
    refine st_to (v := (.bool false)) (some 21) rfl rfl (ex_bin (u := (.int .i64 t.b)) (r := (.int .i64 7)) rfl rfl rfl (eg3 _ _ _ _ _ _) (gtr3 _ (decide_eq_false c3))) ?_
    simp only [Act.put, List.setIfInBounds_toArray, List.set_cons_zero, List.set_cons_succ]
    refine st_to (v := (.bool false)) (some 22) rfl rfl (ex_pkF rfl rfl rfl) ?_
    simp only [Act.put, List.setIfInBounds_toArray, List.set_cons_zero, List.set_cons_succ]
    refine st_to (v := (.bool false)) (some 23) rfl rfl (ex_mv rfl rfl) ?_
    simp only [Act.put, List.setIfInBounds_toArray, List.set_cons_zero, List.set_cons_succ]
    refine st_to (v := (.pointer (some ⟨b1, 1, none⟩))) (some 24) rfl rfl (ex_fa (p := (.pointer (some ⟨b1, 0, none⟩))) rfl rfl (fa26_1 _ _)) ?_
    simp only [Act.put, List.setIfInBounds_toArray, List.set_cons_zero, List.set_cons_succ]
    refine st_to (v := (.int .i64 t.a)) (some 25) rfl rfl (ex_load (p := (.pointer (some ⟨b1, 1, none⟩))) rfl rfl (ld3 (at_cell k1 hT.c1))) ?_
    simp only [Act.put, List.setIfInBounds_toArray, List.set_cons_zero, List.set_cons_succ]
    refine st_to (v := (.pointer (some ⟨b1, 2, none⟩))) (some 26) rfl rfl (ex_fa (p := (.pointer (some ⟨b1, 0, none⟩))) rfl rfl (fa26_2 _ _)) ?_
    simp only [Act.put, List.setIfInBounds_toArray, List.set_cons_zero, List.set_cons_succ]
    refine st_to (v := (.int .i64 t.b)) (some 27) rfl rfl (ex_load (p := (.pointer (some ⟨b1, 2, none⟩))) rfl rfl (ld3 (at_cell k1 hT.c2))) ?_
    simp only [Act.put, List.setIfInBounds_toArray, List.set_cons_zero, List.set_cons_succ]
    refine st_to (v := (.bool false)) (some 28) rfl rfl (ex_bin (u := (.int .i64 t.a)) (r := (.int .i64 t.b)) rfl rfl rfl (eg3 _ _ _ _ _ _) (geq3 _ (decide_eq_false c4))) ?_
    simp only [Act.put, List.setIfInBounds_toArray, List.set_cons_zero, List.set_cons_succ]
    refine st_to (v := (.bool false)) (some 29) rfl rfl (ex_pkF rfl rfl rfl) ?_
    simp only [Act.put, List.setIfInBounds_toArray, List.set_cons_zero, List.set_cons_succ]
    refine st_to (v := (.bool false)) (some 30) rfl rfl (ex_mv rfl rfl) ?_
    simp only [Act.put, List.setIfInBounds_toArray, List.set_cons_zero, List.set_cons_succ]
    refine st_to (v := (.pointer (some ⟨b1, 3, none⟩))) (some 31) rfl rfl (ex_fa (p := (.pointer (some ⟨b1, 0, none⟩))) rfl rfl (fa26_3 _ _)) ?_
    simp only [Act.put, List.setIfInBounds_toArray, List.set_cons_zero, List.set_cons_succ]
    refine st_to (v := (.pointer (some ⟨b1, 35, none⟩))) (some 32) rfl rfl (ex_fa rfl rfl (faR _ 0 _)) ?_
    simp only [Act.put, List.setIfInBounds_toArray, List.set_cons_zero, List.set_cons_succ]
    refine st_to (v := (.int .i64 t.fo)) (some 33) rfl rfl (ex_load (p := (.pointer (some ⟨b1, 35, none⟩))) rfl rfl (ld3 (at_cell k1 hT.c35))) ?_
    simp only [Act.put, List.setIfInBounds_toArray, List.set_cons_zero, List.set_cons_succ]
    refine st_to (v := (.bool true)) (some 34) rfl rfl (ex_bin (u := (.int .i64 t.fo)) (r := (.int .i64 0)) rfl rfl rfl (eg3 _ _ _ _ _ _) (lss3 _ (decide_eq_true c5))) ?_
    simp only [Act.put, List.setIfInBounds_toArray, List.set_cons_zero, List.set_cons_succ]
    refine st_to (v := (.bool true)) (some 35) rfl rfl (ex_pkF rfl rfl rfl) ?_
    simp only [Act.put, List.setIfInBounds_toArray, List.set_cons_zero, List.set_cons_succ]
    refine st_to (v := (.bool true)) (some 36) rfl rfl (ex_mv rfl rfl) ?_
    simp only [Act.put, List.setIfInBounds_toArray, List.set_cons_zero, List.set_cons_succ]
    refine st_no (some 37) rfl rfl ?_
    simp only [Act.put, List.setIfInBounds_toArray, List.set_cons_zero, List.set_cons_succ]
    refine st_no (some 38) rfl rfl ?_
    simp only [Act.put, List.setIfInBounds_toArray, List.set_cons_zero, List.set_cons_succ]
    refine st_no (some 39) rfl rfl ?_
    simp only [Act.put, List.setIfInBounds_toArray, List.set_cons_zero, List.set_cons_succ]
    refine st_to (v := (.bool true)) (some 40) rfl rfl (ex_pkT rfl rfl rfl) ?_
    simp only [Act.put, List.setIfInBounds_toArray, List.set_cons_zero, List.set_cons_succ]
    refine st_to (v := (.bool true)) (some 41) rfl rfl (ex_mv rfl rfl) ?_
    simp only [Act.put, List.setIfInBounds_toArray, List.set_cons_zero, List.set_cons_succ]
    refine st_no (some 42) rfl rfl ?_
    simp only [Act.put, List.setIfInBounds_toArray, List.set_cons_zero, List.set_cons_succ]
    refine st_no (some 43) rfl rfl ?_
    simp only [Act.put, List.setIfInBounds_toArray, List.set_cons_zero, List.set_cons_succ]
    refine st_no (some 44) rfl rfl ?_
    simp only [Act.put, List.setIfInBounds_toArray, List.set_cons_zero, List.set_cons_succ]
    refine st_to (v := (.bool true)) (some 45) rfl rfl (ex_pkT rfl rfl rfl) ?_
    simp only [Act.put, List.setIfInBounds_toArray, List.set_cons_zero, List.set_cons_succ]
    refine st_to (v := (.bool true)) (some 46) rfl rfl (ex_mv rfl rfl) ?_
    simp only [Act.put, List.setIfInBounds_toArray, List.set_cons_zero, List.set_cons_succ]
    refine st_no (some 47) rfl rfl ?_
    simp only [Act.put, List.setIfInBounds_toArray, List.set_cons_zero, List.set_cons_succ]
    refine st_no (some 48) rfl rfl ?_
    simp only [Act.put, List.setIfInBounds_toArray, List.set_cons_zero, List.set_cons_succ]
    refine st_no (some 49) rfl rfl ?_
    simp only [Act.put, List.setIfInBounds_toArray, List.set_cons_zero, List.set_cons_succ]
    refine st_to (v := (.bool true)) (some 50) rfl rfl (ex_pkT rfl rfl rfl) ?_
    simp only [Act.put, List.setIfInBounds_toArray, List.set_cons_zero, List.set_cons_succ]
    refine st_to (v := (.bool true)) (some 51) rfl rfl (ex_mv rfl rfl) ?_
    simp only [Act.put, List.setIfInBounds_toArray, List.set_cons_zero, List.set_cons_succ]
    refine st_no (some 52) rfl rfl ?_
    simp only [Act.put, List.setIfInBounds_toArray, List.set_cons_zero, List.set_cons_succ]
    refine st_no (some 53) rfl rfl ?_
    simp only [Act.put, List.setIfInBounds_toArray, List.set_cons_zero, List.set_cons_succ]
    refine st_no (some 54) rfl rfl ?_
    simp only [Act.put, List.setIfInBounds_toArray, List.set_cons_zero, List.set_cons_succ]
    refine st_to (v := (.bool true)) (some 55) rfl rfl (ex_pkT rfl rfl rfl) ?_
    simp only [Act.put, List.setIfInBounds_toArray, List.set_cons_zero, List.set_cons_succ]
    refine st_to (v := (.bool true)) (some 56) rfl rfl (ex_mv rfl rfl) ?_
    simp only [Act.put, List.setIfInBounds_toArray, List.set_cons_zero, List.set_cons_succ]
    refine st_no (some 57) rfl rfl ?_
    simp only [Act.put, List.setIfInBounds_toArray, List.set_cons_zero, List.set_cons_succ]
    refine st_no (some 58) rfl rfl ?_
    simp only [Act.put, List.setIfInBounds_toArray, List.set_cons_zero, List.set_cons_succ]
    refine st_no (some 59) rfl rfl ?_
    simp only [Act.put, List.setIfInBounds_toArray, List.set_cons_zero, List.set_cons_succ]
    refine st_to (v := (.bool true)) (some 60) rfl rfl (ex_pkT rfl rfl rfl) ?_
    simp only [Act.put, List.setIfInBounds_toArray, List.set_cons_zero, List.set_cons_succ]
    refine st_to (v := (.bool true)) (some 61) rfl rfl (ex_mv rfl rfl) ?_
    simp only [Act.put, List.setIfInBounds_toArray, List.set_cons_zero, List.set_cons_succ]
    refine st_no (some 62) rfl rfl ?_
    simp only [Act.put, List.setIfInBounds_toArray, List.set_cons_zero, List.set_cons_succ]
    refine st_no (some 63) rfl rfl ?_
    simp only [Act.put, List.setIfInBounds_toArray, List.set_cons_zero, List.set_cons_succ]
    refine st_no (some 64) rfl rfl ?_
    simp only [Act.put, List.setIfInBounds_toArray, List.set_cons_zero, List.set_cons_succ]
    refine st_to (v := (.bool true)) (some 65) rfl rfl (ex_pkT rfl rfl rfl) ?_
    simp only [Act.put, List.setIfInBounds_toArray, List.set_cons_zero, List.set_cons_succ]
    refine st_to (v := (.bool true)) (some 66) rfl rfl (ex_mv rfl rfl) ?_
    simp only [Act.put, List.setIfInBounds_toArray, List.set_cons_zero, List.set_cons_succ]
    refine st_no (some 67) rfl rfl ?_
    simp only [Act.put, List.setIfInBounds_toArray, List.set_cons_zero, List.set_cons_succ]
    refine st_no (some 68) rfl rfl ?_
    simp only [Act.put, List.setIfInBounds_toArray, List.set_cons_zero, List.set_cons_succ]
    refine st_no (some 69) rfl rfl ?_
    simp only [Act.put, List.setIfInBounds_toArray, List.set_cons_zero, List.set_cons_succ]
    refine st_to (v := (.bool true)) (some 70) rfl rfl (ex_pkT rfl rfl rfl) ?_
    simp only [Act.put, List.setIfInBounds_toArray, List.set_cons_zero, List.set_cons_succ]
    refine st_end ?_
    subst hQ
    refine wp_cond_true rfl ?_
    refine wp_seq ?_
    refine wl_in ?_
    refine wl_cap fun Q hQ => ?_
    refine st_to (v := (.bool false)) (some 2) rfl rfl (ex_asg rfl rfl) ?_
    simp only [Act.put, List.setIfInBounds_toArray, List.set_cons_zero, List.set_cons_succ]
    refine st_end ?_
    subst hQ
    refine wp_ret ?_
    refine ret_out ?_
    refine bodyPost_ret (results_tmp Try.results13 _ _ _) rfl ⟨?_, E⟩
    show Ending.returned (.bool false) = _
    rw [decide_eq_false (by omega)]
  by_cases c6 : t.d < 1
  · skip
    have E : Below w.heap.size w w := Below.refl _ _
    go_enter Try.func13, Try.ntmps13
    refine wp_seq ?_
    refine wl_in ?_
    refine wl_cap fun Q hQ => ?_
    refine st_new (fun b => .pointer (some ⟨b, 0, none⟩)) (some 1) rfl rfl (ex_box rfl rfl) ?_
    intro b1 W1 k1 g1 B
    simp only [Act.put, List.setIfInBounds_toArray, List.set_cons_zero, List.set_cons_succ]
    have ge_b1 := Nat.le_trans E.size g1
    replace E := below_next E B
    clear B
    refine st_to (v := (.bool false)) (some 2) rfl rfl (ex_asg rfl rfl) ?_
    simp only [Act.put, List.setIfInBounds_toArray, List.set_cons_zero, List.set_cons_succ]
    refine st_end ?_
    subst hQ
    refine wp_seq ?_
    refine wp_seq ?_
    refine wl_in ?_
    refine wl_cap fun Q hQ => ?_
    refine st_to (v := (.pointer (some ⟨b1, 0, none⟩))) (some 5) rfl rfl (ex_fa (p := (.pointer (some ⟨b1, 0, none⟩))) rfl rfl (fa26_0 _ _)) ?_
    simp only [Act.put, List.setIfInBounds_toArray, List.set_cons_zero, List.set_cons_succ]
    refine st_to (v := (.int .i64 t.ch)) (some 6) rfl rfl (ex_load (p := (.pointer (some ⟨b1, 0, none⟩))) rfl rfl (ld3 (at_cell k1 hT.c0))) ?_
    simp only [Act.put, List.setIfInBounds_toArray, List.set_cons_zero, List.set_cons_succ]
    refine st_to (v := (.bool false)) (some 7) rfl rfl (ex_bin (u := (.int .i64 t.ch)) (r := (.int .i64 1)) rfl rfl rfl (eg3 _ _ _ _ _ _) (lss3 _ (decide_eq_false c0))) ?_
    simp only [Act.put, List.setIfInBounds_toArray, List.set_cons_zero, List.set_cons_succ]
    refine st_to (v := (.bool false)) (some 8) rfl rfl (ex_mv rfl rfl) ?_
    simp only [Act.put, List.setIfInBounds_toArray, List.set_cons_zero, List.set_cons_succ]
    refine st_to (v := (.pointer (some ⟨b1, 0, none⟩))) (some 9) rfl rfl (ex_fa (p := (.pointer (some ⟨b1, 0, none⟩))) rfl rfl (fa26_0 _ _)) ?_
    simp only [Act.put, List.setIfInBounds_toArray, List.set_cons_zero, List.set_cons_succ]
    refine st_to (v := (.int .i64 t.ch)) (some 10) rfl rfl (ex_load (p := (.pointer (some ⟨b1, 0, none⟩))) rfl rfl (ld3 (at_cell k1 hT.c0))) ?_
    simp only [Act.put, List.setIfInBounds_toArray, List.set_cons_zero, List.set_cons_succ]
    refine st_to (v := (.bool false)) (some 11) rfl rfl (ex_bin (u := (.int .i64 t.ch)) (r := (.int .i64 65535)) rfl rfl rfl (eg3 _ _ _ _ _ _) (gtr3 _ (decide_eq_false c1))) ?_
    simp only [Act.put, List.setIfInBounds_toArray, List.set_cons_zero, List.set_cons_succ]
    refine st_to (v := (.bool false)) (some 12) rfl rfl (ex_pkF rfl rfl rfl) ?_
    simp only [Act.put, List.setIfInBounds_toArray, List.set_cons_zero, List.set_cons_succ]
    refine st_to (v := (.bool false)) (some 13) rfl rfl (ex_mv rfl rfl) ?_
    simp only [Act.put, List.setIfInBounds_toArray, List.set_cons_zero, List.set_cons_succ]
    refine st_to (v := (.pointer (some ⟨b1, 1, none⟩))) (some 14) rfl rfl (ex_fa (p := (.pointer (some ⟨b1, 0, none⟩))) rfl rfl (fa26_1 _ _)) ?_
    simp only [Act.put, List.setIfInBounds_toArray, List.set_cons_zero, List.set_cons_succ]
    refine st_to (v := (.int .i64 t.a)) (some 15) rfl rfl (ex_load (p := (.pointer (some ⟨b1, 1, none⟩))) rfl rfl (ld3 (at_cell k1 hT.c1))) ?_
    simp only [Act.put, List.setIfInBounds_toArray, List.set_cons_zero, List.set_cons_succ]
    refine st_to (v := (.bool false)) (some 16) rfl rfl (ex_bin (u := (.int .i64 t.a)) (r := (.int .i64 0)) rfl rfl rfl (eg3 _ _ _ _ _ _) (lss3 _ (decide_eq_false c2))) ?_
    simp only [Act.put, List.setIfInBounds_toArray, List.set_cons_zero, List.set_cons_succ]
    refine st_to (v := (.bool false)) (some 17) rfl rfl (ex_pkF rfl rfl rfl) ?_
    simp only [Act.put, List.setIfInBounds_toArray, List.set_cons_zero, List.set_cons_succ]
    refine st_to (v := (.bool false)) (some 18) rfl rfl (ex_mv rfl rfl) ?_
    simp only [Act.put, List.setIfInBounds_toArray, List.set_cons_zero, List.set_cons_succ]
    refine st_to (v := (.pointer (some ⟨b1, 2, none⟩))) (some 19) rfl rfl (ex_fa (p := (.pointer (some ⟨b1, 0, none⟩))) rfl rfl (fa26_2 _ _)) ?_
    simp only [Act.put, List.setIfInBounds_toArray, List.set_cons_zero, List.set_cons_succ]
    refine st_to (v := (.int .i64 t.b)) (some 20) rfl rfl (ex_load (p := (.pointer (some ⟨b1, 2, none⟩))) rfl rfl (ld3 (at_cell k1 hT.c2))) ?_
    simp only [Act.put, List.setIfInBounds_toArray, List.set_cons_zero, List.set_cons_succ]
    refine st_to (v := (.bool false)) (some 21) rfl rfl (ex_bin (u := (.int .i64 t.b)) (r := (.int .i64 7)) rfl rfl rfl (eg3 _ _ _ _ _ _) (gtr3 _ (decide_eq_false c3))) ?_
    simp only [Act.put, List.setIfInBounds_toArray, List.set_cons_zero, List.set_cons_succ]
    refine st_to (v := (.bool false)) (some 22) rfl rfl (ex_pkF rfl rfl rfl) ?_
    simp only [Act.put, List.setIfInBounds_toArray, List.set_cons_zero, List.set_cons_succ]
    refine st_to (v := (.bool false)) (some 23) rfl rfl (ex_mv rfl rfl) ?_
    simp only [Act.put, List.setIfInBounds_toArray, List.set_cons_zero, List.set_cons_succ]
    refine st_to (v := (.pointer (some ⟨b1, 1, none⟩))) (some 24) rfl rfl (ex_fa (p := (.pointer (some ⟨b1, 0, none⟩))) rfl rfl (fa26_1 _ _)) ?_
    simp only [Act.put, List.setIfInBounds_toArray, List.set_cons_zero, List.set_cons_succ]
    refine st_to (v := (.int .i64 t.a)) (some 25) rfl rfl (ex_load (p := (.pointer (some ⟨b1, 1, none⟩))) rfl rfl (ld3 (at_cell k1 hT.c1))) ?_
    simp only [Act.put, List.setIfInBounds_toArray, List.set_cons_zero, List.set_cons_succ]
    refine st_to (v := (.pointer (some ⟨b1, 2, none⟩))) (some 26) rfl rfl (ex_fa (p := (.pointer (some ⟨b1, 0, none⟩))) rfl rfl (fa26_2 _ _)) ?_
    simp only [Act.put, List.setIfInBounds_toArray, List.set_cons_zero, List.set_cons_succ]
    refine st_to (v := (.int .i64 t.b)) (some 27) rfl rfl (ex_load (p := (.pointer (some ⟨b1, 2, none⟩))) rfl rfl (ld3 (at_cell k1 hT.c2))) ?_
    simp only [Act.put, List.setIfInBounds_toArray, List.set_cons_zero, List.set_cons_succ]
    refine st_to (v := (.bool false)) (some 28) rfl rfl (ex_bin (u := (.int .i64 t.a)) (r := (.int .i64 t.b)) rfl rfl rfl (eg3 _ _ _ _ _ _) (geq3 _ (decide_eq_false c4))) ?_
    simp only [Act.put, List.setIfInBounds_toArray, List.set_cons_zero, List.set_cons_succ]
    refine st_to (v := (.bool false)) (some 29) rfl rfl (ex_pkF rfl rfl rfl) ?_
    simp only [Act.put, List.setIfInBounds_toArray, List.set_cons_zero, List.set_cons_succ]
    refine st_to (v := (.bool false)) (some 30) rfl rfl (ex_mv rfl rfl) ?_
    simp only [Act.put, List.setIfInBounds_toArray, List.set_cons_zero, List.set_cons_succ]
    refine st_to (v := (.pointer (some ⟨b1, 3, none⟩))) (some 31) rfl rfl (ex_fa (p := (.pointer (some ⟨b1, 0, none⟩))) rfl rfl (fa26_3 _ _)) ?_
    simp only [Act.put, List.setIfInBounds_toArray, List.set_cons_zero, List.set_cons_succ]
    refine st_to (v := (.pointer (some ⟨b1, 35, none⟩))) (some 32) rfl rfl (ex_fa rfl rfl (faR _ 0 _)) ?_
    simp only [Act.put, List.setIfInBounds_toArray, List.set_cons_zero, List.set_cons_succ]
    refine st_to (v := (.int .i64 t.fo)) (some 33) rfl rfl (ex_load (p := (.pointer (some ⟨b1, 35, none⟩))) rfl rfl (ld3 (at_cell k1 hT.c35))) ?_
    simp only [Act.put, List.setIfInBounds_toArray, List.set_cons_zero, List.set_cons_succ]
    refine st_to (v := (.bool false)) (some 34) rfl rfl (ex_bin (u := (.int .i64 t.fo)) (r := (.int .i64 0)) rfl rfl rfl (eg3 _ _ _ _ _ _) (lss3 _ (decide_eq_false c5))) ?_
    simp only [Act.put, List.setIfInBounds_toArray, List.set_cons_zero, List.set_cons_succ]
    refine st_to (v := (.bool false)) (some 35) rfl rfl (ex_pkF rfl rfl rfl) ?_
    simp only [Act.put, List.setIfInBounds_toArray, List.set_cons_zero, List.set_cons_succ]
    refine st_to (v := (.bool false)) (some 36) rfl rfl (ex_mv rfl rfl) ?_
    simp only [Act.put, List.setIfInBounds_toArray, List.set_cons_zero, List.set_cons_succ]
    refine st_to (v := (.pointer (some ⟨b1, 38, none⟩))) (some 37) rfl rfl (ex_fa (p := (.pointer (some ⟨b1, 0, none⟩))) rfl rfl (fa26_6 _ _)) ?_
    simp only [Act.put, List.setIfInBounds_toArray, List.set_cons_zero, List.set_cons_succ]
    refine st_to (v := (.int .i64 t.d)) (some 38) rfl rfl (ex_load (p := (.pointer (some ⟨b1, 38, none⟩))) rfl rfl (ld3 (at_cell k1 hT.c38))) ?_
    simp only [Act.put, List.setIfInBounds_toArray, List.set_cons_zero, List.set_cons_succ]
    refine st_to (v := (.bool true)) (some 39) rfl rfl (ex_bin (u := (.int .i64 t.d)) (r := (.int .i64 1)) rfl rfl rfl (eg3 _ _ _ _ _ _) (lss3 _ (decide_eq_true c6))) ?_
    simp only [Act.put, List.setIfInBounds_toArray, List.set_cons_zero, List.set_cons_succ]
    refine st_to (v := (.bool true)) (some 40) rfl rfl (ex_pkF rfl rfl rfl) ?_
    simp only [Act.put, List.setIfInBounds_toArray, List.set_cons_zero, List.set_cons_succ]
    refine st_to (v := (.bool true)) (some 41) rfl rfl (ex_mv rfl rfl) ?_
    simp only [Act.put, List.setIfInBounds_toArray, List.set_cons_zero, List.set_cons_succ]
    refine st_no (some 42) rfl rfl ?_
    simp only [Act.put, List.setIfInBounds_toArray, List.set_cons_zero, List.set_cons_succ]
    refine st_no (some 43) rfl rfl ?_
    simp only [Act.put, List.setIfInBounds_toArray, List.set_cons_zero, List.set_cons_succ]
    refine st_no (some 44) rfl rfl ?_
    simp only [Act.put, List.setIfInBounds_toArray, List.set_cons_zero, List.set_cons_succ]
    refine st_to (v := (.bool true)) (some 45) rfl rfl (ex_pkT rfl rfl rfl) ?_
    simp only [Act.put, List.setIfInBounds_toArray, List.set_cons_zero, List.set_cons_succ]
    refine st_to (v := (.bool true)) (some 46) rfl rfl (ex_mv rfl rfl) ?_
    simp only [Act.put, List.setIfInBounds_toArray, List.set_cons_zero, List.set_cons_succ]
    refine st_no (some 47) rfl rfl ?_
    simp only [Act.put, List.setIfInBounds_toArray, List.set_cons_zero, List.set_cons_succ]
    refine st_no (some 48) rfl rfl ?_
    simp only [Act.put, List.setIfInBounds_toArray, List.set_cons_zero, List.set_cons_succ]
    refine st_no (some 49) rfl rfl ?_
    simp only [Act.put, List.setIfInBounds_toArray, List.set_cons_zero, List.set_cons_succ]
    refine st_to (v := (.bool true)) (some 50) rfl rfl (ex_pkT rfl rfl rfl) ?_
    simp only [Act.put, List.setIfInBounds_toArray, List.set_cons_zero, List.set_cons_succ]
    refine st_to (v := (.bool true)) (some 51) rfl rfl (ex_mv rfl rfl) ?_
    simp only [Act.put, List.setIfInBounds_toArray, List.set_cons_zero, List.set_cons_succ]
    refine st_no (some 52) rfl rfl ?_
    simp only [Act.put, List.setIfInBounds_toArray, List.set_cons_zero, List.set_cons_succ]
    refine st_no (some 53) rfl rfl ?_
    simp only [Act.put, List.setIfInBounds_toArray, List.set_cons_zero, List.set_cons_succ]
    refine st_no (some 54) rfl rfl ?_
    simp only [Act.put, List.setIfInBounds_toArray, List.set_cons_zero, List.set_cons_succ]
    refine st_to (v := (.bool true)) (some 55) rfl rfl (ex_pkT rfl rfl rfl) ?_
    simp only [Act.put, List.setIfInBounds_toArray, List.set_cons_zero, List.set_cons_succ]
    refine st_to (v := (.bool true)) (some 56) rfl rfl (ex_mv rfl rfl) ?_
    simp only [Act.put, List.setIfInBounds_toArray, List.set_cons_zero, List.set_cons_succ]
    refine st_no (some 57) rfl rfl ?_
    simp only [Act.put, List.setIfInBounds_toArray, List.set_cons_zero, List.set_cons_succ]
    refine st_no (some 58) rfl rfl ?_
    simp only [Act.put, List.setIfInBounds_toArray, List.set_cons_zero, List.set_cons_succ]
    refine st_no (some 59) rfl rfl ?_
    simp only [Act.put, List.setIfInBounds_toArray, List.set_cons_zero, List.set_cons_succ]
    refine st_to (v := (.bool true)) (some 60) rfl rfl (ex_pkT rfl rfl rfl) ?_
    simp only [Act.put, List.setIfInBounds_toArray, List.set_cons_zero, List.set_cons_succ]
    refine st_to (v := (.bool true)) (some 61) rfl rfl (ex_mv rfl rfl) ?_
    simp only [Act.put, List.setIfInBounds_toArray, List.set_cons_zero, List.set_cons_succ]
    refine st_no (some 62) rfl rfl ?_
    simp only [Act.put, List.setIfInBounds_toArray, List.set_cons_zero, List.set_cons_succ]
    refine st_no (some 63) rfl rfl ?_
    simp only [Act.put, List.setIfInBounds_toArray, List.set_cons_zero, List.set_cons_succ]
    refine st_no (some 64) rfl rfl ?_
    simp only [Act.put, List.setIfInBounds_toArray, List.set_cons_zero, List.set_cons_succ]
    refine st_to (v := (.bool true)) (some 65) rfl rfl (ex_pkT rfl rfl rfl) ?_
    simp only [Act.put, List.setIfInBounds_toArray, List.set_cons_zero, List.set_cons_succ]
    refine st_to (v := (.bool true)) (some 66) rfl rfl (ex_mv rfl rfl) ?_
    simp only [Act.put, List.setIfInBounds_toArray, List.set_cons_zero, List.set_cons_succ]
    refine st_no (some 67) rfl rfl ?_
    simp only [Act.put, List.setIfInBounds_toArray, List.set_cons_zero, List.set_cons_succ]
    refine st_no (some 68) rfl rfl ?_
    simp only [Act.put, List.setIfInBounds_toArray, List.set_cons_zero, List.set_cons_succ]
    refine st_no (some 69) rfl rfl ?_
    simp only [Act.put, List.setIfInBounds_toArray, List.set_cons_zero, List.set_cons_succ]
    refine st_to (v := (.bool true)) (some 70) rfl rfl (ex_pkT rfl rfl rfl) ?_
    simp only [Act.put, List.setIfInBounds_toArray, List.set_cons_zero, List.set_cons_succ]
    refine st_end ?_
    subst hQ
    refine wp_cond_true rfl ?_
    refine wp_seq ?_
    refine wl_in ?_
    refine wl_cap fun Q hQ => ?_
    refine st_to (v := (.bool false)) (some 2) rfl rfl (ex_asg rfl rfl) ?_
    simp only [Act.put, List.setIfInBounds_toArray, List.set_cons_zero, List.set_cons_succ]
    refine st_end ?_
    subst hQ
    refine wp_ret ?_
    refine ret_out ?_
    refine bodyPost_ret (results_tmp Try.results13 _ _ _) rfl ⟨?_, E⟩
    show Ending.returned (.bool false) = _
    rw [decide_eq_false (by omega)]
  by_cases c7 : 1000 < t.d
  · skip
    have E : Below w.heap.size w w := Below.refl _ _
    go_enter Try.func13, Try.ntmps13
    refine wp_seq ?_
    refine wl_in ?_
    refine wl_cap fun Q hQ => ?_
    refine st_new (fun b => .pointer (some ⟨b, 0, none⟩)) (some 1) rfl rfl (ex_box rfl rfl) ?_
    intro b1 W1 k1 g1 B
    simp only [Act.put, List.setIfInBounds_toArray, List.set_cons_zero, List.set_cons_succ]
    have ge_b1 := Nat.le_trans E.size g1
    replace E := below_next E B
    clear B
    refine st_to (v := (.bool false)) (some 2) rfl rfl (ex_asg rfl rfl) ?_
    simp only [Act.put, List.setIfInBounds_toArray, List.set_cons_zero, List.set_cons_succ]
    refine st_end ?_
    subst hQ
    refine wp_seq ?_
    refine wp_seq ?_
    refine wl_in ?_
    refine wl_cap fun Q hQ => ?_
    refine st_to (v := (.pointer (some ⟨b1, 0, none⟩))) (some 5) rfl rfl (ex_fa (p := (.pointer (some ⟨b1, 0, none⟩))) rfl rfl (fa26_0 _ _)) ?_
    simp only [Act.put, List.setIfInBounds_toArray, List.set_cons_zero, List.set_cons_succ]
    refine st_to (v := (.int .i64 t.ch)) (some 6) rfl rfl (ex_load (p := (.pointer (some ⟨b1, 0, none⟩))) rfl rfl (ld3 (at_cell k1 hT.c0))) ?_
    simp only [Act.put, List.setIfInBounds_toArray, List.set_cons_zero, List.set_cons_succ]
    refine st_to (v := (.bool false)) (some 7) rfl rfl (ex_bin (u := (.int .i64 t.ch)) (r := (.int .i64 1)) rfl rfl rfl (eg3 _ _ _ _ _ _) (lss3 _ (decide_eq_false c0))) ?_
    simp only [Act.put, List.setIfInBounds_toArray, List.set_cons_zero, List.set_cons_succ]
    refine st_to (v := (.bool false)) (some 8) rfl rfl (ex_mv rfl rfl) ?_
    simp only [Act.put, List.setIfInBounds_toArray, List.set_cons_zero, List.set_cons_succ]
    refine st_to (v := (.pointer (some ⟨b1, 0, none⟩))) (some 9) rfl rfl (ex_fa (p := (.pointer (some ⟨b1, 0, none⟩))) rfl rfl (fa26_0 _ _)) ?_
    simp only [Act.put, List.setIfInBounds_toArray, List.set_cons_zero, List.set_cons_succ]
    refine st_to (v := (.int .i64 t.ch)) (some 10) rfl rfl (ex_load (p := (.pointer (some ⟨b1, 0, none⟩))) rfl rfl (ld3 (at_cell k1 hT.c0))) ?_
    simp only [Act.put, List.setIfInBounds_toArray, List.set_cons_zero, List.set_cons_succ]
    refine st_to (v := (.bool false)) (some 11) rfl rfl (ex_bin (u := (.int .i64 t.ch)) (r := (.int .i64 65535)) rfl rfl rfl (eg3 _ _ _ _ _ _) (gtr3 _ (decide_eq_false c1))) ?_
    simp only [Act.put, List.setIfInBounds_toArray, List.set_cons_zero, List.set_cons_succ]
    refine st_to (v := (.bool false)) (some 12) rfl rfl (ex_pkF rfl rfl rfl) ?_
    simp only [Act.put, List.setIfInBounds_toArray, List.set_cons_zero, List.set_cons_succ]
    refine st_to (v := (.bool false)) (some 13) rfl rfl (ex_mv rfl rfl) ?_
    simp only [Act.put, List.setIfInBounds_toArray, List.set_cons_zero, List.set_cons_succ]
    refine st_to (v := (.pointer (some ⟨b1, 1, none⟩))) (some 14) rfl rfl (ex_fa (p := (.pointer (some ⟨b1, 0, none⟩))) rfl rfl (fa26_1 _ _)) ?_
    simp only [Act.put, List.setIfInBounds_toArray, List.set_cons_zero, List.set_cons_succ]
    refine st_to (v := (.int .i64 t.a)) (some 15) rfl rfl (ex_load (p := (.pointer (some ⟨b1, 1, none⟩))) rfl rfl (ld3 (at_cell k1 hT.c1))) ?_
    simp only [Act.put, List.setIfInBounds_toArray, List.set_cons_zero, List.set_cons_succ]
    refine st_to (v := (.bool false)) (some 16) rfl rfl (ex_bin (u := (.int .i64 t.a)) (r := (.int .i64 0)) rfl rfl rfl (eg3 _ _ _ _ _ _) (lss3 _ (decide_eq_false c2))) ?_
    simp only [Act.put, List.setIfInBounds_toArray, List.set_cons_zero, List.set_cons_succ]
    refine st_to (v := (.bool false)) (some 17) rfl rfl (ex_pkF rfl rfl rfl) ?_
    simp only [Act.put, List.setIfInBounds_toArray, List.set_cons_zero, List.set_cons_succ]
    refine st_to (v := (.bool false)) (some 18) rfl rfl (ex_mv rfl rfl) ?_
    simp only [Act.put, List.setIfInBounds_toArray, List.set_cons_zero, List.set_cons_succ]
    refine st_to (v := (.pointer (some ⟨b1, 2, none⟩))) (some 19) rfl rfl (ex_fa (p := (.pointer (some ⟨b1, 0, none⟩))) rfl rfl (fa26_2 _ _)) ?_
    simp only [Act.put, List.setIfInBounds_toArray, List.set_cons_zero, List.set_cons_succ]
    refine st_to (v := (.int .i64 t.b)) (some 20) rfl rfl (ex_load (p := (.pointer (some ⟨b1, 2, none⟩))) rfl rfl (ld3 (at_cell k1 hT.c2))) ?_
    simp only [Act.put, List.setIfInBounds_toArray, List.set_cons_zero, List.set_cons_succ]
    refine st_to (v := (.bool false)) (some 21) rfl rfl (ex_bin (u := (.int .i64 t.b)) (r := (.int .i64 7)) rfl rfl rfl (eg3 _ _ _ _ _ _) (gtr3 _ (decide_eq_false c3))) ?_
    simp only [Act.put, List.setIfInBounds_toArray, List.set_cons_zero, List.set_cons_succ]
    refine st_to (v := (.bool false)) (some 22) rfl rfl (ex_pkF rfl rfl rfl) ?_
    simp only [Act.put, List.setIfInBounds_toArray, List.set_cons_zero, List.set_cons_succ]
    refine st_to (v := (.bool false)) (some 23) rfl rfl (ex_mv rfl rfl) ?_
    simp only [Act.put, List.setIfInBounds_toArray, List.set_cons_zero, List.set_cons_succ]
    refine st_to (v := (.pointer (some ⟨b1, 1, none⟩))) (some 24) rfl rfl (ex_fa (p := (.pointer (some ⟨b1, 0, none⟩))) rfl rfl (fa26_1 _ _)) ?_
    simp only [Act.put, List.setIfInBounds_toArray, List.set_cons_zero, List.set_cons_succ]
    refine st_to (v := (.int .i64 t.a)) (some 25) rfl rfl (ex_load (p := (.pointer (some ⟨b1, 1, none⟩))) rfl rfl (ld3 (at_cell k1 hT.c1))) ?_
    simp only [Act.put, List.setIfInBounds_toArray, List.set_cons_zero, List.set_cons_succ]
    refine st_to (v := (.pointer (some ⟨b1, 2, none⟩))) (some 26) rfl rfl (ex_fa (p := (.pointer (some ⟨b1, 0, none⟩))) rfl rfl (fa26_2 _ _)) ?_
    simp only [Act.put, List.setIfInBounds_toArray, List.set_cons_zero, List.set_cons_succ]
    refine st_to (v := (.int .i64 t.b)) (some 27) rfl rfl (ex_load (p := (.pointer (some ⟨b1, 2, none⟩))) rfl rfl (ld3 (at_cell k1 hT.c2))) ?_
    simp only [Act.put, List.setIfInBounds_toArray, List.set_cons_zero, List.set_cons_succ]
    refine st_to (v := (.bool false)) (some 28) rfl rfl (ex_bin (u := (.int .i64 t.a)) (r := (.int .i64 t.b)) rfl rfl rfl (eg3 _ _ _ _ _ _) (geq3 _ (decide_eq_false c4))) ?_
    simp only [Act.put, List.setIfInBounds_toArray, List.set_cons_zero, List.set_cons_succ]
    refine st_to (v := (.bool false)) (some 29) rfl rfl (ex_pkF rfl rfl rfl) ?_
    simp only [Act.put, List.setIfInBounds_toArray, List.set_cons_zero, List.set_cons_succ]
    refine st_to (v := (.bool false)) (some 30) rfl rfl (ex_mv rfl rfl) ?_
    simp only [Act.put, List.setIfInBounds_toArray, List.set_cons_zero, List.set_cons_succ]
    refine st_to (v := (.pointer (some ⟨b1, 3, none⟩))) (some 31) rfl rfl (ex_fa (p := (.pointer (some ⟨b1, 0, none⟩))) rfl rfl (fa26_3 _ _)) ?_
    simp only [Act.put, List.setIfInBounds_toArray, List.set_cons_zero, List.set_cons_succ]
    refine st_to (v := (.pointer (some ⟨b1, 35, none⟩))) (some 32) rfl rfl (ex_fa rfl rfl (faR _ 0 _)) ?_
    simp only [Act.put, List.setIfInBounds_toArray, List.set_cons_zero, List.set_cons_succ]
    refine st_to (v := (.int .i64 t.fo)) (some 33) rfl rfl (ex_load (p := (.pointer (some ⟨b1, 35, none⟩))) rfl rfl (ld3 (at_cell k1 hT.c35))) ?_
    simp only [Act.put, List.setIfInBounds_toArray, List.set_cons_zero, List.set_cons_succ]
    refine st_to (v := (.bool false)) (some 34) rfl rfl (ex_bin (u := (.int .i64 t.fo)) (r := (.int .i64 0)) rfl rfl rfl (eg3 _ _ _ _ _ _) (lss3 _ (decide_eq_false c5))) ?_
    simp only [Act.put, List.setIfInBounds_toArray, List.set_cons_zero, List.set_cons_succ]
    refine st_to (v := (.bool false)) (some 35) rfl rfl (ex_pkF rfl rfl rfl) ?_
    simp only [Act.put, List.setIfInBounds_toArray, List.set_cons_zero, List.set_cons_succ]
    refine st_to (v := (.bool false)) (some 36) rfl rfl (ex_mv rfl rfl) ?_
    simp only [Act.put, List.setIfInBounds_toArray, List.set_cons_zero, List.set_cons_succ]
    refine st_to (v := (.pointer (some ⟨b1, 38, none⟩))) (some 37) rfl rfl (ex_fa (p := (.pointer (some ⟨b1, 0, none⟩))) rfl rfl (fa26_6 _ _)) ?_
    simp only [Act.put, List.setIfInBounds_toArray, List.set_cons_zero, List.set_cons_succ]
    refine st_to (v := (.int .i64 t.d)) (some 38) rfl rfl (ex_load (p := (.pointer (some ⟨b1, 38, none⟩))) rfl rfl (ld3 (at_cell k1 hT.c38))) ?_
    simp only [Act.put, List.setIfInBounds_toArray, List.set_cons_zero, List.set_cons_succ]
    refine st_to (v := (.bool false)) (some 39) rfl rfl (ex_bin (u := (.int .i64 t.d)) (r := (.int .i64 1)) rfl rfl rfl (eg3 _ _ _ _ _ _) (lss3 _ (decide_eq_false c6))) ?_
    simp only [Act.put, List.setIfInBounds_toArray, List.set_cons_zero, List.set_cons_succ]
    refine st_to (v := (.bool false)) (some 40) rfl rfl (ex_pkF rfl rfl rfl) ?_
    simp only [Act.put, List.setIfInBounds_toArray, List.set_cons_zero, List.set_cons_succ]
    refine st_to (v := (.bool false)) (some 41) rfl rfl (ex_mv rfl rfl) ?_
    simp only [Act.put, List.setIfInBounds_toArray, List.set_cons_zero, List.set_cons_succ]
    refine st_to (v := (.pointer (some ⟨b1, 38, none⟩))) (some 42) rfl rfl (ex_fa (p := (.pointer (some ⟨b1, 0, none⟩))) rfl rfl (fa26_6 _ _)) ?_
    simp only [Act.put, List.setIfInBounds_toArray, List.set_cons_zero, List.set_cons_succ]
    refine st_to (v := (.int .i64 t.d)) (some 43) rfl rfl (ex_load (p := (.pointer (some ⟨b1, 38, none⟩))) rfl rfl (ld3 (at_cell k1 hT.c38))) ?_
    simp only [Act.put, List.setIfInBounds_toArray, List.set_cons_zero, List.set_cons_succ]
    refine st_to (v := (.bool true)) (some 44) rfl rfl (ex_bin (u := (.int .i64 t.d)) (r := (.int .i64 1000)) rfl rfl rfl (eg3 _ _ _ _ _ _) (gtr3 _ (decide_eq_true c7))) ?_
    simp only [Act.put, List.setIfInBounds_toArray, List.set_cons_zero, List.set_cons_succ]
    refine st_to (v := (.bool true)) (some 45) rfl rfl (ex_pkF rfl rfl rfl) ?_
    simp only [Act.put, List.setIfInBounds_toArray, List.set_cons_zero, List.set_cons_succ]
    refine st_to (v := (.bool true)) (some 46) rfl rfl (ex_mv rfl rfl) ?_
    simp only [Act.put, List.setIfInBounds_toArray, List.set_cons_zero, List.set_cons_succ]
    refine st_no (some 47) rfl rfl ?_
    simp only [Act.put, List.setIfInBounds_toArray, List.set_cons_zero, List.set_cons_succ]
    refine st_no (some 48) rfl rfl ?_
    simp only [Act.put, List.setIfInBounds_toArray, List.set_cons_zero, List.set_cons_succ]
    refine st_no (some 49) rfl rfl ?_
    simp only [Act.put, List.setIfInBounds_toArray, List.set_cons_zero, List.set_cons_succ]
    refine st_to (v := (.bool true)) (some 50) rfl rfl (ex_pkT rfl rfl rfl) ?_
    simp only [Act.put, List.setIfInBounds_toArray, List.set_cons_zero, List.set_cons_succ]
    refine st_to (v := (.bool true)) (some 51) rfl rfl (ex_mv rfl rfl) ?_
    simp only [Act.put, List.setIfInBounds_toArray, List.set_cons_zero, List.set_cons_succ]
    refine st_no (some 52) rfl rfl ?_
    simp only [Act.put, List.setIfInBounds_toArray, List.set_cons_zero, List.set_cons_succ]
    refine st_no (some 53) rfl rfl ?_
    simp only [Act.put, List.setIfInBounds_toArray, List.set_cons_zero, List.set_cons_succ]
    refine st_no (some 54) rfl rfl ?_
    simp only [Act.put, List.setIfInBounds_toArray, List.set_cons_zero, List.set_cons_succ]
    refine st_to (v := (.bool true)) (some 55) rfl rfl (ex_pkT rfl rfl rfl) ?_
    simp only [Act.put, List.setIfInBounds_toArray, List.set_cons_zero, List.set_cons_succ]
    refine st_to (v := (.bool true)) (some 56) rfl rfl (ex_mv rfl rfl) ?_
    simp only [Act.put, List.setIfInBounds_toArray, List.set_cons_zero, List.set_cons_succ]
    refine st_no (some 57) rfl rfl ?_
    simp only [Act.put, List.setIfInBounds_toArray, List.set_cons_zero, List.set_cons_succ]
    refine st_no (some 58) rfl rfl ?_
    simp only [Act.put, List.setIfInBounds_toArray, List.set_cons_zero, List.set_cons_succ]
    refine st_no (some 59) rfl rfl ?_
    simp only [Act.put, List.setIfInBounds_toArray, List.set_cons_zero, List.set_cons_succ]
    refine st_to (v := (.bool true)) (some 60) rfl rfl (ex_pkT rfl rfl rfl) ?_
    simp only [Act.put, List.setIfInBounds_toArray, List.set_cons_zero, List.set_cons_succ]
    refine st_to (v := (.bool true)) (some 61) rfl rfl (ex_mv rfl rfl) ?_
    simp only [Act.put, List.setIfInBounds_toArray, List.set_cons_zero, List.set_cons_succ]
    refine st_no (some 62) rfl rfl ?_
    simp only [Act.put, List.setIfInBounds_toArray, List.set_cons_zero, List.set_cons_succ]
    refine st_no (some 63) rfl rfl ?_
    simp only [Act.put, List.setIfInBounds_toArray, List.set_cons_zero, List.set_cons_succ]
    refine st_no (some 64) rfl rfl ?_
    simp only [Act.put, List.setIfInBounds_toArray, List.set_cons_zero, List.set_cons_succ]
    refine st_to (v := (.bool true)) (some 65) rfl rfl (ex_pkT rfl rfl rfl) ?_
    simp only [Act.put, List.setIfInBounds_toArray, List.set_cons_zero, List.set_cons_succ]
    refine st_to (v := (.bool true)) (some 66) rfl rfl (ex_mv rfl rfl) ?_
    simp only [Act.put, List.setIfInBounds_toArray, List.set_cons_zero, List.set_cons_succ]
    refine st_no (some 67) rfl rfl ?_
    simp only [Act.put, List.setIfInBounds_toArray, List.set_cons_zero, List.set_cons_succ]
    refine st_no (some 68) rfl rfl ?_
    simp only [Act.put, List.setIfInBounds_toArray, List.set_cons_zero, List.set_cons_succ]
    refine st_no (some 69) rfl rfl ?_
    simp only [Act.put, List.setIfInBounds_toArray, List.set_cons_zero, List.set_cons_succ]
    refine st_to (v := (.bool true)) (some 70) rfl rfl (ex_pkT rfl rfl rfl) ?_
    simp only [Act.put, List.setIfInBounds_toArray, List.set_cons_zero, List.set_cons_succ]
    refine st_end ?_
    subst hQ
    refine wp_cond_true rfl ?_
    refine wp_seq ?_
    refine wl_in ?_
    refine wl_cap fun Q hQ => ?_
    refine st_to (v := (.bool false)) (some 2) rfl rfl (ex_asg rfl rfl) ?_
    simp only [Act.put, List.setIfInBounds_toArray, List.set_cons_zero, List.set_cons_succ]
    refine st_end ?_
    subst hQ
    refine wp_ret ?_
    refine ret_out ?_
    refine bodyPost_ret (results_tmp Try.results13 _ _ _) rfl ⟨?_, E⟩
    show Ending.returned (.bool false) = _
    rw [decide_eq_false (by omega)]
  by_cases c8 : t.fee < 0
  · skip
    have E : Below w.heap.size w w := Below.refl _ _
    go_enter Try.func13, Try.ntmps13
    refine wp_seq ?_
    refine wl_in ?_
    refine wl_cap fun Q hQ => ?_
    refine st_new (fun b => .pointer (some ⟨b, 0, none⟩)) (some 1) rfl rfl (ex_box rfl rfl) ?_
    intro b1 W1 k1 g1 B
    simp only [Act.put, List.setIfInBounds_toArray, List.set_cons_zero, List.set_cons_succ]
    have ge_b1 := Nat.le_trans E.size g1
    replace E := below_next E B
    clear B
    refine st_to (v := (.bool false)) (some 2) rfl rfl (ex_asg rfl rfl) ?_
    simp only [Act.put, List.setIfInBounds_toArray, List.set_cons_zero, List.set_cons_succ]
    refine st_end ?_
    subst hQ
    refine wp_seq ?_
    refine wp_seq ?_
    refine wl_in ?_
    refine wl_cap fun Q hQ => ?_
    refine st_to (v := (.pointer (some ⟨b1, 0, none⟩))) (some 5) rfl rfl (ex_fa (p := (.pointer (some ⟨b1, 0, none⟩))) rfl rfl (fa26_0 _ _)) ?_
    simp only [Act.put, List.setIfInBounds_toArray, List.set_cons_zero, List.set_cons_succ]
    refine st_to (v := (.int .i64 t.ch)) (some 6) rfl rfl (ex_load (p := (.pointer (some ⟨b1, 0, none⟩))) rfl rfl (ld3 (at_cell k1 hT.c0))) ?_
    simp only [Act.put, List.setIfInBounds_toArray, List.set_cons_zero, List.set_cons_succ]
    refine st_to (v := (.bool false)) (some 7) rfl rfl (ex_bin (u := (.int .i64 t.ch)) (r := (.int .i64 1)) rfl rfl rfl (eg3 _ _ _ _ _ _) (lss3 _ (decide_eq_false c0))) ?_
    simp only [Act.put, List.setIfInBounds_toArray, List.set_cons_zero, List.set_cons_succ]
    refine st_to (v := (.bool false)) (some 8) rfl rfl (ex_mv rfl rfl) ?_
    simp only [Act.put, List.setIfInBounds_toArray, List.set_cons_zero, List.set_cons_succ]
    refine st_to (v := (.pointer (some ⟨b1, 0, none⟩))) (some 9) rfl rfl (ex_fa (p := (.pointer (some ⟨b1, 0, none⟩))) rfl rfl (fa26_0 _ _)) ?_
    simp only [Act.put, List.setIfInBounds_toArray, List.set_cons_zero, List.set_cons_succ]
    refine st_to (v := (.int .i64 t.ch)) (some 10) rfl rfl (ex_load (p := (.pointer (some ⟨b1, 0, none⟩))) rfl rfl (ld3 (at_cell k1 hT.c0))) ?_
    simp only [Act.put, List.setIfInBounds_toArray, List.set_cons_zero, List.set_cons_succ]
    refine st_to (v := (.bool false)) (some 11) rfl rfl (ex_bin (u := (.int .i64 t.ch)) (r := (.int .i64 65535)) rfl rfl rfl (eg3 _ _ _ _ _ _) (gtr3 _ (decide_eq_false c1))) ?_
    simp only [Act.put, List.setIfInBounds_toArray, List.set_cons_zero, List.set_cons_succ]
    refine st_to (v := (.bool false)) (some 12) rfl rfl (ex_pkF rfl rfl rfl) ?_
    simp only [Act.put, List.setIfInBounds_toArray, List.set_cons_zero, List.set_cons_succ]
    refine st_to (v := (.bool false)) (some 13) rfl rfl (ex_mv rfl rfl) ?_
    simp only [Act.put, List.setIfInBounds_toArray, List.set_cons_zero, List.set_cons_succ]
    refine st_to (v := (.pointer (some ⟨b1, 1, none⟩))) (some 14) rfl rfl (ex_fa (p := (.pointer (some ⟨b1, 0, none⟩))) rfl rfl (fa26_1 _ _)) ?_
    simp only [Act.put, List.setIfInBounds_toArray, List.set_cons_zero, List.set_cons_succ]
    refine st_to (v := (.int .i64 t.a)) (some 15) rfl rfl (ex_load (p := (.pointer (some ⟨b1, 1, none⟩))) rfl rfl (ld3 (at_cell k1 hT.c1))) ?_
    simp only [Act.put, List.setIfInBounds_toArray, List.set_cons_zero, List.set_cons_succ]
    refine st_to (v := (.bool false)) (some 16) rfl rfl (ex_bin (u := (.int .i64 t.a)) (r := (.int .i64 0)) rfl rfl rfl (eg3 _ _ _ _ _ _) (lss3 _ (decide_eq_false c2))) ?_
    simp only [Act.put, List.setIfInBounds_toArray, List.set_cons_zero, List.set_cons_succ]
    refine st_to (v := (.bool false)) (some 17) rfl rfl (ex_pkF rfl rfl rfl) ?_
    simp only [Act.put, List.setIfInBounds_toArray, List.set_cons_zero, List.set_cons_succ]
    refine st_to (v := (.bool false)) (some 18) rfl rfl (ex_mv rfl rfl) ?_
    simp only [Act.put, List.setIfInBounds_toArray, List.set_cons_zero, List.set_cons_succ]
    refine st_to (v := (.pointer (some ⟨b1, 2, none⟩))) (some 19) rfl rfl (ex_fa (p := (.pointer (some ⟨b1, 0, none⟩))) rfl rfl (fa26_2 _ _)) ?_
    simp only [Act.put, List.setIfInBounds_toArray, List.set_cons_zero, List.set_cons_succ]
    refine st_to (v := (.int .i64 t.b)) (some 20) rfl rfl (ex_load (p := (.pointer (some ⟨b1, 2, none⟩))) rfl rfl (ld3 (at_cell k1 hT.c2))) ?_
    simp only [Act.put, List.setIfInBounds_toArray, List.set_cons_zero, List.set_cons_succ]
    refine st_to (v := (.bool false)) (some 21) rfl rfl (ex_bin (u := (.int .i64 t.b)) (r := (.int .i64 7)) rfl rfl rfl (eg3 _ _ _ _ _ _) (gtr3 _ (decide_eq_false c3))) ?_
    simp only [Act.put, List.setIfInBounds_toArray, List.set_cons_zero, List.set_cons_succ]
    refine st_to (v := (.bool false)) (some 22) rfl rfl (ex_pkF rfl rfl rfl) ?_
    simp only [Act.put, List.setIfInBounds_toArray, List.set_cons_zero, List.set_cons_succ]
    refine st_to (v := (.bool false)) (some 23) rfl rfl (ex_mv rfl rfl) ?_
    simp only [Act.put, List.setIfInBounds_toArray, List.set_cons_zero, List.set_cons_succ]
    refine st_to (v := (.pointer (some ⟨b1, 1, none⟩))) (some 24) rfl rfl (ex_fa (p := (.pointer (some ⟨b1, 0, none⟩))) rfl rfl (fa26_1 _ _)) ?_
    simp only [Act.put, List.setIfInBounds_toArray, List.set_cons_zero, List.set_cons_succ]
    refine st_to (v := (.int .i64 t.a)) (some 25) rfl rfl (ex_load (p := (.pointer (some ⟨b1, 1, none⟩))) rfl rfl (ld3 (at_cell k1 hT.c1))) ?_
    simp only [Act.put, List.setIfInBounds_toArray, List.set_cons_zero, List.set_cons_succ]
    refine st_to (v := (.pointer (some ⟨b1, 2, none⟩))) (some 26) rfl rfl (ex_fa (p := (.pointer (some ⟨b1, 0, none⟩))) rfl rfl (fa26_2 _ _)) ?_
    simp only [Act.put, List.setIfInBounds_toArray, List.set_cons_zero, List.set_cons_succ]
    refine st_to (v := (.int .i64 t.b)) (some 27) rfl rfl (ex_load (p := (.pointer (some ⟨b1, 2, none⟩))) rfl rfl (ld3 (at_cell k1 hT.c2))) ?_
    simp only [Act.put, List.setIfInBounds_toArray, List.set_cons_zero, List.set_cons_succ]
    refine st_to (v := (.bool false)) (some 28) rfl rfl (ex_bin (u := (.int .i64 t.a)) (r := (.int .i64 t.b)) rfl rfl rfl (eg3 _ _ _ _ _ _) (geq3 _ (decide_eq_false c4))) ?_
    simp only [Act.put, List.setIfInBounds_toArray, List.set_cons_zero, List.set_cons_succ]
    refine st_to (v := (.bool false)) (some 29) rfl rfl (ex_pkF rfl rfl rfl) ?_
    simp only [Act.put, List.setIfInBounds_toArray, List.set_cons_zero, List.set_cons_succ]
    refine st_to (v := (.bool false)) (some 30) rfl rfl (ex_mv rfl rfl) ?_
    simp only [Act.put, List.setIfInBounds_toArray, List.set_cons_zero, List.set_cons_succ]
    refine st_to (v := (.pointer (some ⟨b1, 3, none⟩))) (some 31) rfl rfl (ex_fa (p := (.pointer (some ⟨b1, 0, none⟩))) rfl rfl (fa26_3 _ _)) ?_
    simp only [Act.put, List.setIfInBounds_toArray, List.set_cons_zero, List.set_cons_succ]
    refine st_to (v := (.pointer (some ⟨b1, 35, none⟩))) (some 32) rfl rfl (ex_fa rfl rfl (faR _ 0 _)) ?_
    simp only [Act.put, List.setIfInBounds_toArray, List.set_cons_zero, List.set_cons_succ]
    refine st_to (v := (.int .i64 t.fo)) (some 33) rfl rfl (ex_load (p := (.pointer (some ⟨b1, 35, none⟩))) rfl rfl (ld3 (at_cell k1 hT.c35))) ?_
    simp only [Act.put, List.setIfInBounds_toArray, List.set_cons_zero, List.set_cons_succ]
    refine st_to (v := (.bool false)) (some 34) rfl rfl (ex_bin (u := (.int .i64 t.fo)) (r := (.int .i64 0)) rfl rfl rfl (eg3 _ _ _ _ _ _) (lss3 _ (decide_eq_false c5))) ?_
    simp only [Act.put, List.setIfInBounds_toArray, List.set_cons_zero, List.set_cons_succ]
    refine st_to (v := (.bool false)) (some 35) rfl rfl (ex_pkF rfl rfl rfl) ?_
    simp only [Act.put, List.setIfInBounds_toArray, List.set_cons_zero, List.set_cons_succ]
    refine st_to (v := (.bool false)) (some 36) rfl rfl (ex_mv rfl rfl) ?_
    simp only [Act.put, List.setIfInBounds_toArray, List.set_cons_zero, List.set_cons_succ]
    refine st_to (v := (.pointer (some ⟨b1, 38, none⟩))) (some 37) rfl rfl (ex_fa (p := (.pointer (some ⟨b1, 0, none⟩))) rfl rfl (fa26_6 _ _)) ?_
    simp only [Act.put, List.setIfInBounds_toArray, List.set_cons_zero, List.set_cons_succ]
    refine st_to (v := (.int .i64 t.d)) (some 38) rfl rfl (ex_load (p := (.pointer (some ⟨b1, 38, none⟩))) rfl rfl (ld3 (at_cell k1 hT.c38))) ?_
    simp only [Act.put, List.setIfInBounds_toArray, List.set_cons_zero, List.set_cons_succ]
    refine st_to (v := (.bool false)) (some 39) rfl rfl (ex_bin (u := (.int .i64 t.d)) (r := (.int .i64 1)) rfl rfl rfl (eg3 _ _ _ _ _ _) (lss3 _ (decide_eq_false c6))) ?_
    simp only [Act.put, List.setIfInBounds_toArray, List.set_cons_zero, List.set_cons_succ]
    refine st_to (v := (.bool false)) (some 40) rfl rfl (ex_pkF rfl rfl rfl) ?_
    simp only [Act.put, List.setIfInBounds_toArray, List.set_cons_zero, List.set_cons_succ]
    refine st_to (v := (.bool false)) (some 41) rfl rfl (ex_mv rfl rfl) ?_
    simp only [Act.put, List.setIfInBounds_toArray, List.set_cons_zero, List.set_cons_succ]
    refine st_to (v := (.pointer (some ⟨b1, 38, none⟩))) (some 42) rfl rfl (ex_fa (p := (.pointer (some ⟨b1, 0, none⟩))) rfl rfl (fa26_6 _ _)) ?_
    simp only [Act.put, List.setIfInBounds_toArray, List.set_cons_zero, List.set_cons_succ]
    refine st_to (v := (.int .i64 t.d)) (some 43) rfl rfl (ex_load (p := (.pointer (some ⟨b1, 38, none⟩))) rfl rfl (ld3 (at_cell k1 hT.c38))) ?_
    simp only [Act.put, List.setIfInBounds_toArray, List.set_cons_zero, List.set_cons_succ]
    refine st_to (v := (.bool false)) (some 44) rfl rfl (ex_bin (u := (.int .i64 t.d)) (r := (.int .i64 1000)) rfl rfl rfl (eg3 _ _ _ _ _ _) (gtr3 _ (decide_eq_false c7))) ?_
    simp only [Act.put, List.setIfInBounds_toArray, List.set_cons_zero, List.set_cons_succ]
    refine st_to (v := (.bool false)) (some 45) rfl rfl (ex_pkF rfl rfl rfl) ?_
    simp only [Act.put, List.setIfInBounds_toArray, List.set_cons_zero, List.set_cons_succ]
    refine st_to (v := (.bool false)) (some 46) rfl rfl (ex_mv rfl rfl) ?_
    simp only [Act.put, List.setIfInBounds_toArray, List.set_cons_zero, List.set_cons_succ]
    refine st_to (v := (.pointer (some ⟨b1, 39, none⟩))) (some 47) rfl rfl (ex_fa (p := (.pointer (some ⟨b1, 0, none⟩))) rfl rfl (fa26_7 _ _)) ?_
    simp only [Act.put, List.setIfInBounds_toArray, List.set_cons_zero, List.set_cons_succ]
    refine st_to (v := (.int .i64 t.fee)) (some 48) rfl rfl (ex_load (p := (.pointer (some ⟨b1, 39, none⟩))) rfl rfl (ld3 (at_cell k1 hT.c39))) ?_
    simp only [Act.put, List.setIfInBounds_toArray, List.set_cons_zero, List.set_cons_succ]
    refine st_to (v := (.bool true)) (some 49) rfl rfl (ex_bin (u := (.int .i64 t.fee)) (r := (.int .i64 0)) rfl rfl rfl (eg3 _ _ _ _ _ _) (lss3 _ (decide_eq_true c8))) ?_
    simp only [Act.put, List.setIfInBounds_toArray, List.set_cons_zero, List.set_cons_succ]
    refine st_to (v := (.bool true)) (some 50) rfl rfl (ex_pkF rfl rfl rfl) ?_
    simp only [Act.put, List.setIfInBounds_toArray, List.set_cons_zero, List.set_cons_succ]
    refine st_to (v := (.bool true)) (some 51) rfl rfl (ex_mv rfl rfl) ?_
    simp only [Act.put, List.setIfInBounds_toArray, List.set_cons_zero, List.set_cons_succ]
    refine st_no (some 52) rfl rfl ?_
    simp only [Act.put, List.setIfInBounds_toArray, List.set_cons_zero, List.set_cons_succ]
    refine st_no (some 53) rfl rfl ?_
    simp only [Act.put, List.setIfInBounds_toArray, List.set_cons_zero, List.set_cons_succ]
    refine st_no (some 54) rfl rfl ?_
    simp only [Act.put, List.setIfInBounds_toArray, List.set_cons_zero, List.set_cons_succ]
    refine st_to (v := (.bool true)) (some 55) rfl rfl (ex_pkT rfl rfl rfl) ?_
    simp only [Act.put, List.setIfInBounds_toArray, List.set_cons_zero, List.set_cons_succ]
    refine st_to (v := (.bool true)) (some 56) rfl rfl (ex_mv rfl rfl) ?_
    simp only [Act.put, List.setIfInBounds_toArray, List.set_cons_zero, List.set_cons_succ]
    refine st_no (some 57) rfl rfl ?_
    simp only [Act.put, List.setIfInBounds_toArray, List.set_cons_zero, List.set_cons_succ]
    refine st_no (some 58) rfl rfl ?_
    simp only [Act.put, List.setIfInBounds_toArray, List.set_cons_zero, List.set_cons_succ]
    refine st_no (some 59) rfl rfl ?_
    simp only [Act.put, List.setIfInBounds_toArray, List.set_cons_zero, List.set_cons_succ]
    refine st_to (v := (.bool true)) (some 60) rfl rfl (ex_pkT rfl rfl rfl) ?_
    simp only [Act.put, List.setIfInBounds_toArray, List.set_cons_zero, List.set_cons_succ]
    refine st_to (v := (.bool true)) (some 61) rfl rfl (ex_mv rfl rfl) ?_
    simp only [Act.put, List.setIfInBounds_toArray, List.set_cons_zero, List.set_cons_succ]
    refine st_no (some 62) rfl rfl ?_
    simp only [Act.put, List.setIfInBounds_toArray, List.set_cons_zero, List.set_cons_succ]
    refine st_no (some 63) rfl rfl ?_
    simp only [Act.put, List.setIfInBounds_toArray, List.set_cons_zero, List.set_cons_succ]
    refine st_no (some 64) rfl rfl ?_
    simp only [Act.put, List.setIfInBounds_toArray, List.set_cons_zero, List.set_cons_succ]
    refine st_to (v := (.bool true)) (some 65) rfl rfl (ex_pkT rfl rfl rfl) ?_
    simp only [Act.put, List.setIfInBounds_toArray, List.set_cons_zero, List.set_cons_succ]
    refine st_to (v := (.bool true)) (some 66) rfl rfl (ex_mv rfl rfl) ?_
    simp only [Act.put, List.setIfInBounds_toArray, List.set_cons_zero, List.set_cons_succ]
    refine st_no (some 67) rfl rfl ?_
    simp only [Act.put, List.setIfInBounds_toArray, List.set_cons_zero, List.set_cons_succ]
    refine st_no (some 68) rfl rfl ?_
    simp only [Act.put, List.setIfInBounds_toArray, List.set_cons_zero, List.set_cons_succ]
    refine st_no (some 69) rfl rfl ?_
    simp only [Act.put, List.setIfInBounds_toArray, List.set_cons_zero, List.set_cons_succ]
    refine st_to (v := (.bool true)) (some 70) rfl rfl (ex_pkT rfl rfl rfl) ?_
    simp only [Act.put, List.setIfInBounds_toArray, List.set_cons_zero, List.set_cons_succ]
    refine st_end ?_
    subst hQ
    refine wp_cond_true rfl ?_
    refine wp_seq ?_
    refine wl_in ?_
    refine wl_cap fun Q hQ => ?_
    refine st_to (v := (.bool false)) (some 2) rfl rfl (ex_asg rfl rfl) ?_
    simp only [Act.put, List.setIfInBounds_toArray, List.set_cons_zero, List.set_cons_succ]
    refine st_end ?_
    subst hQ
    refine wp_ret ?_
    refine ret_out ?_
    refine bodyPost_ret (results_tmp Try.results13 _ _ _) rfl ⟨?_, E⟩
    show Ending.returned (.bool false) = _
    rw [decide_eq_false (by omega)]
  by_cases c9 : t.res < 0
  · skip
    have E : Below w.heap.size w w := Below.refl _ _
    go_enter Try.func13, Try.ntmps13
    refine wp_seq ?_
    refine wl_in ?_
    refine wl_cap fun Q hQ => ?_
    refine st_new (fun b => .pointer (some ⟨b, 0, none⟩)) (some 1) rfl rfl (ex_box rfl rfl) ?_
    intro b1 W1 k1 g1 B
    simp only [Act.put, List.setIfInBounds_toArray, List.set_cons_zero, List.set_cons_succ]
    have ge_b1 := Nat.le_trans E.size g1
    replace E := below_next E B
    clear B
    refine st_to (v := (.bool false)) (some 2) rfl rfl (ex_asg rfl rfl) ?_
    simp only [Act.put, List.setIfInBounds_toArray, List.set_cons_zero, List.set_cons_succ]
    refine st_end ?_
    subst hQ
    refine wp_seq ?_
    refine wp_seq ?_
    refine wl_in ?_
    refine wl_cap fun Q hQ => ?_
    refine st_to (v := (.pointer (some ⟨b1, 0, none⟩))) (some 5) rfl rfl (ex_fa (p := (.pointer (some ⟨b1, 0, none⟩))) rfl rfl (fa26_0 _ _)) ?_
    simp only [Act.put, List.setIfInBounds_toArray, List.set_cons_zero, List.set_cons_succ]
    refine st_to (v := (.int .i64 t.ch)) (some 6) rfl rfl (ex_load (p := (.pointer (some ⟨b1, 0, none⟩))) rfl rfl (ld3 (at_cell k1 hT.c0))) ?_
    simp only [Act.put, List.setIfInBounds_toArray, List.set_cons_zero, List.set_cons_succ]
    refine st_to (v := (.bool false)) (some 7) rfl rfl (ex_bin (u := (.int .i64 t.ch)) (r := (.int .i64 1)) rfl rfl rfl (eg3 _ _ _ _ _ _) (lss3 _ (decide_eq_false c0))) ?_
    simp only [Act.put, List.setIfInBounds_toArray, List.set_cons_zero, List.set_cons_succ]
    refine st_to (v := (.bool false)) (some 8) rfl rfl (ex_mv rfl rfl) ?_
    simp only [Act.put, List.setIfInBounds_toArray, List.set_cons_zero, List.set_cons_succ]
    refine st_to (v := (.pointer (some ⟨b1, 0, none⟩))) (some 9) rfl rfl (ex_fa (p := (.pointer (some ⟨b1, 0, none⟩))) rfl rfl (fa26_0 _ _)) ?_
    simp only [Act.put, List.setIfInBounds_toArray, List.set_cons_zero, List.set_cons_succ]
    refine st_to (v := (.int .i64 t.ch)) (some 10) rfl rfl (ex_load (p := (.pointer (some ⟨b1, 0, none⟩))) rfl rfl (ld3 (at_cell k1 hT.c0))) ?_
    simp only [Act.put, List.setIfInBounds_toArray, List.set_cons_zero, List.set_cons_succ]
    refine st_to (v := (.bool false)) (some 11) rfl rfl (ex_bin (u := (.int .i64 t.ch)) (r := (.int .i64 65535)) rfl rfl rfl (eg3 _ _ _ _ _ _) (gtr3 _ (decide_eq_false c1))) ?_
    simp only [Act.put, List.setIfInBounds_toArray, List.set_cons_zero, List.set_cons_succ]
    refine st_to (v := (.bool false)) (some 12) rfl rfl (ex_pkF rfl rfl rfl) ?_
    simp only [Act.put, List.setIfInBounds_toArray, List.set_cons_zero, List.set_cons_succ]
    refine st_to (v := (.bool false)) (some 13) rfl rfl (ex_mv rfl rfl) ?_
    simp only [Act.put, List.setIfInBounds_toArray, List.set_cons_zero, List.set_cons_succ]
    refine st_to (v := (.pointer (some ⟨b1, 1, none⟩))) (some 14) rfl rfl (ex_fa (p := (.pointer (some ⟨b1, 0, none⟩))) rfl rfl (fa26_1 _ _)) ?_
    simp only [Act.put, List.setIfInBounds_toArray, List.set_cons_zero, List.set_cons_succ]
    refine st_to (v := (.int .i64 t.a)) (some 15) rfl rfl (ex_load (p := (.pointer (some ⟨b1, 1, none⟩))) rfl rfl (ld3 (at_cell k1 hT.c1))) ?_
    simp only [Act.put, List.setIfInBounds_toArray, List.set_cons_zero, List.set_cons_succ]
    refine st_to (v := (.bool false)) (some 16) rfl rfl (ex_bin (u := (.int .i64 t.a)) (r := (.int .i64 0)) rfl rfl rfl (eg3 _ _ _ _ _ _) (lss3 _ (decide_eq_false c2))) ?_
    simp only [Act.put, List.setIfInBounds_toArray, List.set_cons_zero, List.set_cons_succ]
    refine st_to (v := (.bool false)) (some 17) rfl rfl (ex_pkF rfl rfl rfl) ?_
    simp only [Act.put, List.setIfInBounds_toArray, List.set_cons_zero, List.set_cons_succ]
    refine st_to (v := (.bool false)) (some 18) rfl rfl (ex_mv rfl rfl) ?_
    simp only [Act.put, List.setIfInBounds_toArray, List.set_cons_zero, List.set_cons_succ]
    refine st_to (v := (.pointer (some ⟨b1, 2, none⟩))) (some 19) rfl rfl (ex_fa (p := (.pointer (some ⟨b1, 0, none⟩))) rfl rfl (fa26_2 _ _)) ?_
    simp only [Act.put, List.setIfInBounds_toArray, List.set_cons_zero, List.set_cons_succ]
    refine st_to (v := (.int .i64 t.b)) (some 20) rfl rfl (ex_load (p := (.pointer (some ⟨b1, 2, none⟩))) rfl rfl (ld3 (at_cell k1 hT.c2))) ?_
    simp only [Act.put, List.setIfInBounds_toArray, List.set_cons_zero, List.set_cons_succ]
    refine st_to (v := (.bool false)) (some 21) rfl rfl (ex_bin (u := (.int .i64 t.b)) (r := (.int .i64 7)) rfl rfl rfl (eg3 _ _ _ _ _ _) (gtr3 _ (decide_eq_false c3))) ?_
    simp only [Act.put, List.setIfInBounds_toArray, List.set_cons_zero, List.set_cons_succ]
    refine st_to (v := (.bool false)) (some 22) rfl rfl (ex_pkF rfl rfl rfl) ?_
    simp only [Act.put, List.setIfInBounds_toArray, List.set_cons_zero, List.set_cons_succ]
    refine st_to (v := (.bool false)) (some 23) rfl rfl (ex_mv rfl rfl) ?_
    simp only [Act.put, List.setIfInBounds_toArray, List.set_cons_zero, List.set_cons_succ]
    refine st_to (v := (.pointer (some ⟨b1, 1, none⟩))) (some 24) rfl rfl (ex_fa (p := (.pointer (some ⟨b1, 0, none⟩))) rfl rfl (fa26_1 _ _)) ?_
    simp only [Act.put, List.setIfInBounds_toArray, List.set_cons_zero, List.set_cons_succ]
    refine st_to (v := (.int .i64 t.a)) (some 25) rfl rfl (ex_load (p := (.pointer (some ⟨b1, 1, none⟩))) rfl rfl (ld3 (at_cell k1 hT.c1))) ?_
    simp only [Act.put, List.setIfInBounds_toArray, List.set_cons_zero, List.set_cons_succ]
    refine st_to (v := (.pointer (some ⟨b1, 2, none⟩))) (some 26) rfl rfl (ex_fa (p := (.pointer (some ⟨b1, 0, none⟩))) rfl rfl (fa26_2 _ _)) ?_
    simp only [Act.put, List.setIfInBounds_toArray, List.set_cons_zero, List.set_cons_succ]
    refine st_to (v := (.int .i64 t.b)) (some 27) rfl rfl (ex_load (p := (.pointer (some ⟨b1, 2, none⟩))) rfl rfl (ld3 (at_cell k1 hT.c2))) ?_
    simp only [Act.put, List.setIfInBounds_toArray, List.set_cons_zero, List.set_cons_succ]
    refine st_to (v := (.bool false)) (some 28) rfl rfl (ex_bin (u := (.int .i64 t.a)) (r := (.int .i64 t.b)) rfl rfl rfl (eg3 _ _ _ _ _ _) (geq3 _ (decide_eq_false c4))) ?_
    simp only [Act.put, List.setIfInBounds_toArray, List.set_cons_zero, List.set_cons_succ]
    refine st_to (v := (.bool false)) (some 29) rfl rfl (ex_pkF rfl rfl rfl) ?_
    simp only [Act.put, List.setIfInBounds_toArray, List.set_cons_zero, List.set_cons_succ]
    refine st_to (v := (.bool false)) (some 30) rfl rfl (ex_mv rfl rfl) ?_
    simp only [Act.put, List.setIfInBounds_toArray, List.set_cons_zero, List.set_cons_succ]
    refine st_to (v := (.pointer (some ⟨b1, 3, none⟩))) (some 31) rfl rfl (ex_fa (p := (.pointer (some ⟨b1, 0, none⟩))) rfl rfl (fa26_3 _ _)) ?_
    simp only [Act.put, List.setIfInBounds_toArray, List.set_cons_zero, List.set_cons_succ]
    refine st_to (v := (.pointer (some ⟨b1, 35, none⟩))) (some 32) rfl rfl (ex_fa rfl rfl (faR _ 0 _)) ?_
    simp only [Act.put, List.setIfInBounds_toArray, List.set_cons_zero, List.set_cons_succ]
    refine st_to (v := (.int .i64 t.fo)) (some 33) rfl rfl (ex_load (p := (.pointer (some ⟨b1, 35, none⟩))) rfl rfl (ld3 (at_cell k1 hT.c35))) ?_
    simp only [Act.put, List.setIfInBounds_toArray, List.set_cons_zero, List.set_cons_succ]
    refine st_to (v := (.bool false)) (some 34) rfl rfl (ex_bin (u := (.int .i64 t.fo)) (r := (.int .i64 0)) rfl rfl rfl (eg3 _ _ _ _ _ _) (lss3 _ (decide_eq_false c5))) ?_
    simp only [Act.put, List.setIfInBounds_toArray, List.set_cons_zero, List.set_cons_succ]
    refine st_to (v := (.bool false)) (some 35) rfl rfl (ex_pkF rfl rfl rfl) ?_
    simp only [Act.put, List.setIfInBounds_toArray, List.set_cons_zero, List.set_cons_succ]
    refine st_to (v := (.bool false)) (some 36) rfl rfl (ex_mv rfl rfl) ?_
    simp only [Act.put, List.setIfInBounds_toArray, List.set_cons_zero, List.set_cons_succ]
    refine st_to (v := (.pointer (some ⟨b1, 38, none⟩))) (some 37) rfl rfl (ex_fa (p := (.pointer (some ⟨b1, 0, none⟩))) rfl rfl (fa26_6 _ _)) ?_
    simp only [Act.put, List.setIfInBounds_toArray, List.set_cons_zero, List.set_cons_succ]
    refine st_to (v := (.int .i64 t.d)) (some 38) rfl rfl (ex_load (p := (.pointer (some ⟨b1, 38, none⟩))) rfl rfl (ld3 (at_cell k1 hT.c38))) ?_
    simp only [Act.put, List.setIfInBounds_toArray, List.set_cons_zero, List.set_cons_succ]
    refine st_to (v := (.bool false)) (some 39) rfl rfl (ex_bin (u := (.int .i64 t.d)) (r := (.int .i64 1)) rfl rfl rfl (eg3 _ _ _ _ _ _) (lss3 _ (decide_eq_false c6))) ?_
    simp only [Act.put, List.setIfInBounds_toArray, List.set_cons_zero, List.set_cons_succ]
    refine st_to (v := (.bool false)) (some 40) rfl rfl (ex_pkF rfl rfl rfl) ?_
    simp only [Act.put, List.setIfInBounds_toArray, List.set_cons_zero, List.set_cons_succ]
    refine st_to (v := (.bool false)) (some 41) rfl rfl (ex_mv rfl rfl) ?_
    simp only [Act.put, List.setIfInBounds_toArray, List.set_cons_zero, List.set_cons_succ]
    refine st_to (v := (.pointer (some ⟨b1, 38, none⟩))) (some 42) rfl rfl (ex_fa (p := (.pointer (some ⟨b1, 0, none⟩))) rfl rfl (fa26_6 _ _)) ?_
    simp only [Act.put, List.setIfInBounds_toArray, List.set_cons_zero, List.set_cons_succ]
    refine st_to (v := (.int .i64 t.d)) (some 43) rfl rfl (ex_load (p := (.pointer (some ⟨b1, 38, none⟩))) rfl rfl (ld3 (at_cell k1 hT.c38))) ?_
    simp only [Act.put, List.setIfInBounds_toArray, List.set_cons_zero, List.set_cons_succ]
    refine st_to (v := (.bool false)) (some 44) rfl rfl (ex_bin (u := (.int .i64 t.d)) (r := (.int .i64 1000)) rfl rfl rfl (eg3 _ _ _ _ _ _) (gtr3 _ (decide_eq_false c7))) ?_
    simp only [Act.put, List.setIfInBounds_toArray, List.set_cons_zero, List.set_cons_succ]
    refine st_to (v := (.bool false)) (some 45) rfl rfl (ex_pkF rfl rfl rfl) ?_
    simp only [Act.put, List.setIfInBounds_toArray, List.set_cons_zero, List.set_cons_succ]
    refine st_to (v := (.bool false)) (some 46) rfl rfl (ex_mv rfl rfl) ?_
    simp only [Act.put, List.setIfInBounds_toArray, List.set_cons_zero, List.set_cons_succ]
    refine st_to (v := (.pointer (some ⟨b1, 39, none⟩))) (some 47) rfl rfl (ex_fa (p := (.pointer (some ⟨b1, 0, none⟩))) rfl rfl (fa26_7 _ _)) ?_
    simp only [Act.put, List.setIfInBounds_toArray, List.set_cons_zero, List.set_cons_succ]
    refine st_to (v := (.int .i64 t.fee)) (some 48) rfl rfl (ex_load (p := (.pointer (some ⟨b1, 39, none⟩))) rfl rfl (ld3 (at_cell k1 hT.c39))) ?_
    simp only [Act.put, List.setIfInBounds_toArray, List.set_cons_zero, List.set_cons_succ]
    refine st_to (v := (.bool false)) (some 49) rfl rfl (ex_bin (u := (.int .i64 t.fee)) (r := (.int .i64 0)) rfl rfl rfl (eg3 _ _ _ _ _ _) (lss3 _ (decide_eq_false c8))) ?_
    simp only [Act.put, List.setIfInBounds_toArray, List.set_cons_zero, List.set_cons_succ]
    refine st_to (v := (.bool false)) (some 50) rfl rfl (ex_pkF rfl rfl rfl) ?_
    simp only [Act.put, List.setIfInBounds_toArray, List.set_cons_zero, List.set_cons_succ]
    refine st_to (v := (.bool false)) (some 51) rfl rfl (ex_mv rfl rfl) ?_
    simp only [Act.put, List.setIfInBounds_toArray, List.set_cons_zero, List.set_cons_succ]
    refine st_to (v := (.pointer (some ⟨b1, 40, none⟩))) (some 52) rfl rfl (ex_fa (p := (.pointer (some ⟨b1, 0, none⟩))) rfl rfl (fa26_8 _ _)) ?_
    simp only [Act.put, List.setIfInBounds_toArray, List.set_cons_zero, List.set_cons_succ]
    refine st_to (v := (.int .i64 t.res)) (some 53) rfl rfl (ex_load (p := (.pointer (some ⟨b1, 40, none⟩))) rfl rfl (ld3 (at_cell k1 hT.c40))) ?_
    simp only [Act.put, List.setIfInBounds_toArray, List.set_cons_zero, List.set_cons_succ]
    refine st_to (v := (.bool true)) (some 54) rfl rfl (ex_bin (u := (.int .i64 t.res)) (r := (.int .i64 0)) rfl rfl rfl (eg3 _ _ _ _ _ _) (lss3 _ (decide_eq_true c9))) ?_
    simp only [Act.put, List.setIfInBounds_toArray, List.set_cons_zero, List.set_cons_succ]
    refine st_to (v := (.bool true)) (some 55) rfl rfl (ex_pkF rfl rfl rfl) ?_
    simp only [Act.put, List.setIfInBounds_toArray, List.set_cons_zero, List.set_cons_succ]
    refine st_to (v := (.bool true)) (some 56) rfl rfl (ex_mv rfl rfl) ?_
    simp only [Act.put, List.setIfInBounds_toArray, List.set_cons_zero, List.set_cons_succ]
    refine st_no (some 57) rfl rfl ?_
    simp only [Act.put, List.setIfInBounds_toArray, List.set_cons_zero, List.set_cons_succ]
    refine st_no (some 58) rfl rfl ?_
    simp only [Act.put, List.setIfInBounds_toArray, List.set_cons_zero, List.set_cons_succ]
    refine st_no (some 59) rfl rfl ?_
    simp only [Act.put, List.setIfInBounds_toArray, List.set_cons_zero, List.set_cons_succ]
    refine st_to (v := (.bool true)) (some 60) rfl rfl (ex_pkT rfl rfl rfl) ?_
    simp only [Act.put, List.setIfInBounds_toArray, List.set_cons_zero, List.set_cons_succ]
    refine st_to (v := (.bool true)) (some 61) rfl rfl (ex_mv rfl rfl) ?_
    simp only [Act.put, List.setIfInBounds_toArray, List.set_cons_zero, List.set_cons_succ]
    refine st_no (some 62) rfl rfl ?_
    simp only [Act.put, List.setIfInBounds_toArray, List.set_cons_zero, List.set_cons_succ]
    refine st_no (some 63) rfl rfl ?_
    simp only [Act.put, List.setIfInBounds_toArray, List.set_cons_zero, List.set_cons_succ]
    refine st_no (some 64) rfl rfl ?_
    simp only [Act.put, List.setIfInBounds_toArray, List.set_cons_zero, List.set_cons_succ]
    refine st_to (v := (.bool true)) (some 65) rfl rfl (ex_pkT rfl rfl rfl) ?_
    simp only [Act.put, List.setIfInBounds_toArray, List.set_cons_zero, List.set_cons_succ]
    refine st_to (v := (.bool true)) (some 66) rfl rfl (ex_mv rfl rfl) ?_
    simp only [Act.put, List.setIfInBounds_toArray, List.set_cons_zero, List.set_cons_succ]
    refine st_no (some 67) rfl rfl ?_
    simp only [Act.put, List.setIfInBounds_toArray, List.set_cons_zero, List.set_cons_succ]
    refine st_no (some 68) rfl rfl ?_
    simp only [Act.put, List.setIfInBounds_toArray, List.set_cons_zero, List.set_cons_succ]
    refine st_no (some 69) rfl rfl ?_
    simp only [Act.put, List.setIfInBounds_toArray, List.set_cons_zero, List.set_cons_succ]
    refine st_to (v := (.bool true)) (some 70) rfl rfl (ex_pkT rfl rfl rfl) ?_
    simp only [Act.put, List.setIfInBounds_toArray, List.set_cons_zero, List.set_cons_succ]
    refine st_end ?_
    subst hQ
    refine wp_cond_true rfl ?_
    refine wp_seq ?_
    refine wl_in ?_
    refine wl_cap fun Q hQ => ?_
    refine st_to (v := (.bool false)) (some 2) rfl rfl (ex_asg rfl rfl) ?_
    simp only [Act.put, List.setIfInBounds_toArray, List.set_cons_zero, List.set_cons_succ]
    refine st_end ?_
    subst hQ
    refine wp_ret ?_
    refine ret_out ?_
    refine bodyPost_ret (results_tmp Try.results13 _ _ _) rfl ⟨?_, E⟩
    show Ending.returned (.bool false) = _
    rw [decide_eq_false (by omega)]
  by_cases c10 : t.fl < 0
  · skip
    have E : Below w.heap.size w w := Below.refl _ _
    go_enter Try.func13, Try.ntmps13
    refine wp_seq ?_
    refine wl_in ?_
    refine wl_cap fun Q hQ => ?_
    refine st_new (fun b => .pointer (some ⟨b, 0, none⟩)) (some 1) rfl rfl (ex_box rfl rfl) ?_
    intro b1 W1 k1 g1 B
    simp only [Act.put, List.setIfInBounds_toArray, List.set_cons_zero, List.set_cons_succ]
    have ge_b1 := Nat.le_trans E.size g1
    replace E := below_next E B
    clear B
    refine st_to (v := (.bool false)) (some 2) rfl rfl (ex_asg rfl rfl) ?_
    simp only [Act.put, List.setIfInBounds_toArray, List.set_cons_zero, List.set_cons_succ]
    refine st_end ?_
    subst hQ
    refine wp_seq ?_
    refine wp_seq ?_
    refine wl_in ?_
    refine wl_cap fun Q hQ => ?_
    refine st_to (v := (.pointer (some ⟨b1, 0, none⟩))) (some 5) rfl rfl (ex_fa (p := (.pointer (some ⟨b1, 0, none⟩))) rfl rfl (fa26_0 _ _)) ?_
    simp only [Act.put, List.setIfInBounds_toArray, List.set_cons_zero, List.set_cons_succ]
    refine st_to (v := (.int .i64 t.ch)) (some 6) rfl rfl (ex_load (p := (.pointer (some ⟨b1, 0, none⟩))) rfl rfl (ld3 (at_cell k1 hT.c0))) ?_
    simp only [Act.put, List.setIfInBounds_toArray, List.set_cons_zero, List.set_cons_succ]
    refine st_to (v := (.bool false)) (some 7) rfl rfl (ex_bin (u := (.int .i64 t.ch)) (r := (.int .i64 1)) rfl rfl rfl (eg3 _ _ _ _ _ _) (lss3 _ (decide_eq_false c0))) ?_
    simp only [Act.put, List.setIfInBounds_toArray, List.set_cons_zero, List.set_cons_succ]
    refine st_to (v := (.bool false)) (some 8) rfl rfl (ex_mv rfl rfl) ?_
    simp only [Act.put, List.setIfInBounds_toArray, List.set_cons_zero, List.set_cons_succ]
    refine st_to (v := (.pointer (some ⟨b1, 0, none⟩))) (some 9) rfl rfl (ex_fa (p := (.pointer (some ⟨b1, 0, none⟩))) rfl rfl (fa26_0 _ _)) ?_
    simp only [Act.put, List.setIfInBounds_toArray, List.set_cons_zero, List.set_cons_succ]
    refine st_to (v := (.int .i64 t.ch)) (some 10) rfl rfl (ex_load (p := (.pointer (some ⟨b1, 0, none⟩))) rfl rfl (ld3 (at_cell k1 hT.c0))) ?_
    simp only [Act.put, List.setIfInBounds_toArray, List.set_cons_zero, List.set_cons_succ]
    refine st_to (v := (.bool false)) (some 11) rfl rfl (ex_bin (u := (.int .i64 t.ch)) (r := (.int .i64 65535)) rfl rfl rfl (eg3 _ _ _ _ _ _) (gtr3 _ (decide_eq_false c1))) ?_
    simp only [Act.put, List.setIfInBounds_toArray, List.set_cons_zero, List.set_cons_succ]
    refine st_to (v := (.bool false)) (some 12) rfl rfl (ex_pkF rfl rfl rfl) ?_
    simp only [Act.put, List.setIfInBounds_toArray, List.set_cons_zero, List.set_cons_succ]
    refine st_to (v := (.bool false)) (some 13) rfl rfl (ex_mv rfl rfl) ?_
    simp only [Act.put, List.setIfInBounds_toArray, List.set_cons_zero, List.set_cons_succ]
    refine st_to (v := (.pointer (some ⟨b1, 1, none⟩))) (some 14) rfl rfl (ex_fa (p := (.pointer (some ⟨b1, 0, none⟩))) rfl rfl (fa26_1 _ _)) ?_
    simp only [Act.put, List.setIfInBounds_toArray, List.set_cons_zero, List.set_cons_succ]
    refine st_to (v := (.int .i64 t.a)) (some 15) rfl rfl (ex_load (p := (.pointer (some ⟨b1, 1, none⟩))) rfl rfl (ld3 (at_cell k1 hT.c1))) ?_
    simp only [Act.put, List.setIfInBounds_toArray, List.set_cons_zero, List.set_cons_succ]
    refine st_to (v := (.bool false)) (some 16) rfl rfl (ex_bin (u := (.int .i64 t.a)) (r := (.int .i64 0)) rfl rfl rfl (eg3 _ _ _ _ _ _) (lss3 _ (decide_eq_false c2))) ?_
    simp only [Act.put, List.setIfInBounds_toArray, List.set_cons_zero, List.set_cons_succ]
    refine st_to (v := (.bool false)) (some 17) rfl rfl (ex_pkF rfl rfl rfl) ?_
    simp only [Act.put, List.setIfInBounds_toArray, List.set_cons_zero, List.set_cons_succ]
    refine st_to (v := (.bool false)) (some 18) rfl rfl (ex_mv rfl rfl) ?_
    simp only [Act.put, List.setIfInBounds_toArray, List.set_cons_zero, List.set_cons_succ]
    refine st_to (v := (.pointer (some ⟨b1, 2, none⟩))) (some 19) rfl rfl (ex_fa (p := (.pointer (some ⟨b1, 0, none⟩))) rfl rfl (fa26_2 _ _)) ?_
    simp only [Act.put, List.setIfInBounds_toArray, List.set_cons_zero, List.set_cons_succ]
    refine st_to (v := (.int .i64 t.b)) (some 20) rfl rfl (ex_load (p := (.pointer (some ⟨b1, 2, none⟩))) rfl rfl (ld3 (at_cell k1 hT.c2))) ?_
    simp only [Act.put, List.setIfInBounds_toArray, List.set_cons_zero, List.set_cons_succ]
    refine st_to (v := (.bool false)) (some 21) rfl rfl (ex_bin (u := (.int .i64 t.b)) (r := (.int .i64 7)) rfl rfl rfl (eg3 _ _ _ _ _ _) (gtr3 _ (decide_eq_false c3))) ?_
    simp only [Act.put, List.setIfInBounds_toArray, List.set_cons_zero, List.set_cons_succ]
    refine st_to (v := (.bool false)) (some 22) rfl rfl (ex_pkF rfl rfl rfl) ?_
    simp only [Act.put, List.setIfInBounds_toArray, List.set_cons_zero, List.set_cons_succ]
    refine st_to (v := (.bool false)) (some 23) rfl rfl (ex_mv rfl rfl) ?_
    simp only [Act.put, List.setIfInBounds_toArray, List.set_cons_zero, List.set_cons_succ]
    refine st_to (v := (.pointer (some ⟨b1, 1, none⟩))) (some 24) rfl rfl (ex_fa (p := (.pointer (some ⟨b1, 0, none⟩))) rfl rfl (fa26_1 _ _)) ?_
    simp only [Act.put, List.setIfInBounds_toArray, List.set_cons_zero, List.set_cons_succ]
    refine st_to (v := (.int .i64 t.a)) (some 25) rfl rfl (ex_load (p := (.pointer (some ⟨b1, 1, none⟩))) rfl rfl (ld3 (at_cell k1 hT.c1))) ?_
    simp only [Act.put, List.setIfInBounds_toArray, List.set_cons_zero, List.set_cons_succ]
    refine st_to (v := (.pointer (some ⟨b1, 2, none⟩))) (some 26) rfl rfl (ex_fa (p := (.pointer (some ⟨b1, 0, none⟩))) rfl rfl (fa26_2 _ _)) ?_
    simp only [Act.put, List.setIfInBounds_toArray, List.set_cons_zero, List.set_cons_succ]
    refine st_to (v := (.int .i64 t.b)) (some 27) rfl rfl (ex_load (p := (.pointer (some ⟨b1, 2, none⟩))) rfl rfl (ld3 (at_cell k1 hT.c2))) ?_
    simp only [Act.put, List.setIfInBounds_toArray, List.set_cons_zero, List.set_cons_succ]
    refine st_to (v := (.bool false)) (some 28) rfl rfl (ex_bin (u := (.int .i64 t.a)) (r := (.int .i64 t.b)) rfl rfl rfl (eg3 _ _ _ _ _ _) (geq3 _ (decide_eq_false c4))) ?_
    simp only [Act.put, List.setIfInBounds_toArray, List.set_cons_zero, List.set_cons_succ]
    refine st_to (v := (.bool false)) (some 29) rfl rfl (ex_pkF rfl rfl rfl) ?_
    simp only [Act.put, List.setIfInBounds_toArray, List.set_cons_zero, List.set_cons_succ]
    refine st_to (v := (.bool false)) (some 30) rfl rfl (ex_mv rfl rfl) ?_
    simp only [Act.put, List.setIfInBounds_toArray, List.set_cons_zero, List.set_cons_succ]
    refine st_to (v := (.pointer (some ⟨b1, 3, none⟩))) (some 31) rfl rfl (ex_fa (p := (.pointer (some ⟨b1, 0, none⟩))) rfl rfl (fa26_3 _ _)) ?_
    simp only [Act.put, List.setIfInBounds_toArray, List.set_cons_zero, List.set_cons_succ]
    refine st_to (v := (.pointer (some ⟨b1, 35, none⟩))) (some 32) rfl rfl (ex_fa rfl rfl (faR _ 0 _)) ?_
    simp only [Act.put, List.setIfInBounds_toArray, List.set_cons_zero, List.set_cons_succ]
    refine st_to (v := (.int .i64 t.fo)) (some 33) rfl rfl (ex_load (p := (.pointer (some ⟨b1, 35, none⟩))) rfl rfl (ld3 (at_cell k1 hT.c35))) ?_
    simp only [Act.put, List.setIfInBounds_toArray, List.set_cons_zero, List.set_cons_succ]
    refine st_to (v := (.bool false)) (some 34) rfl rfl (ex_bin (u := (.int .i64 t.fo)) (r := (.int .i64 0)) rfl rfl rfl (eg3 _ _ _ _ _ _) (lss3 _ (decide_eq_false c5))) ?_
    simp only [Act.put, List.setIfInBounds_toArray, List.set_cons_zero, List.set_cons_succ]
    refine st_to (v := (.bool false)) (some 35) rfl rfl (ex_pkF rfl rfl rfl) ?_
    simp only [Act.put, List.setIfInBounds_toArray, List.set_cons_zero, List.set_cons_succ]
    refine st_to (v := (.bool false)) (some 36) rfl rfl (ex_mv rfl rfl) ?_
    simp only [Act.put, List.setIfInBounds_toArray, List.set_cons_zero, List.set_cons_succ]
    refine st_to (v := (.pointer (some ⟨b1, 38, none⟩))) (some 37) rfl rfl (ex_fa (p := (.pointer (some ⟨b1, 0, none⟩))) rfl rfl (fa26_6 _ _)) ?_
    simp only [Act.put, List.setIfInBounds_toArray, List.set_cons_zero, List.set_cons_succ]
    refine st_to (v := (.int .i64 t.d)) (some 38) rfl rfl (ex_load (p := (.pointer (some ⟨b1, 38, none⟩))) rfl rfl (ld3 (at_cell k1 hT.c38))) ?_
    simp only [Act.put, List.setIfInBounds_toArray, List.set_cons_zero, List.set_cons_succ]
    refine st_to (v := (.bool false)) (some 39) rfl rfl (ex_bin (u := (.int .i64 t.d)) (r := (.int .i64 1)) rfl rfl rfl (eg3 _ _ _ _ _ _) (lss3 _ (decide_eq_false c6))) ?_
    simp only [Act.put, List.setIfInBounds_toArray, List.set_cons_zero, List.set_cons_succ]
    refine st_to (v := (.bool false)) (some 40) rfl rfl (ex_pkF rfl rfl rfl) ?_
    simp only [Act.put, List.setIfInBounds_toArray, List.set_cons_zero, List.set_cons_succ]
    refine st_to (v := (.bool false)) (some 41) rfl rfl (ex_mv rfl rfl) ?_
    simp only [Act.put, List.setIfInBounds_toArray, List.set_cons_zero, List.set_cons_succ]
    refine st_to (v := (.pointer (some ⟨b1, 38, none⟩))) (some 42) rfl rfl (ex_fa (p := (.pointer (some ⟨b1, 0, none⟩))) rfl rfl (fa26_6 _ _)) ?_
    simp only [Act.put, List.setIfInBounds_toArray, List.set_cons_zero, List.set_cons_succ]
    refine st_to (v := (.int .i64 t.d)) (some 43) rfl rfl (ex_load (p := (.pointer (some ⟨b1, 38, none⟩))) rfl rfl (ld3 (at_cell k1 hT.c38))) ?_
    simp only [Act.put, List.setIfInBounds_toArray, List.set_cons_zero, List.set_cons_succ]
    refine st_to (v := (.bool false)) (some 44) rfl rfl (ex_bin (u := (.int .i64 t.d)) (r := (.int .i64 1000)) rfl rfl rfl (eg3 _ _ _ _ _ _) (gtr3 _ (decide_eq_false c7))) ?_
    simp only [Act.put, List.setIfInBounds_toArray, List.set_cons_zero, List.set_cons_succ]
    refine st_to (v := (.bool false)) (some 45) rfl rfl (ex_pkF rfl rfl rfl) ?_
    simp only [Act.put, List.setIfInBounds_toArray, List.set_cons_zero, List.set_cons_succ]
    refine st_to (v := (.bool false)) (some 46) rfl rfl (ex_mv rfl rfl) ?_
    simp only [Act.put, List.setIfInBounds_toArray, List.set_cons_zero, List.set_cons_succ]
    refine st_to (v := (.pointer (some ⟨b1, 39, none⟩))) (some 47) rfl rfl (ex_fa (p := (.pointer (some ⟨b1, 0, none⟩))) rfl rfl (fa26_7 _ _)) ?_
    simp only [Act.put, List.setIfInBounds_toArray, List.set_cons_zero, List.set_cons_succ]
    refine st_to (v := (.int .i64 t.fee)) (some 48) rfl rfl (ex_load (p := (.pointer (some ⟨b1, 39, none⟩))) rfl rfl (ld3 (at_cell k1 hT.c39))) ?_
    simp only [Act.put, List.setIfInBounds_toArray, List.set_cons_zero, List.set_cons_succ]
    refine st_to (v := (.bool false)) (some 49) rfl rfl (ex_bin (u := (.int .i64 t.fee)) (r := (.int .i64 0)) rfl rfl rfl (eg3 _ _ _ _ _ _) (lss3 _ (decide_eq_false c8))) ?_
    simp only [Act.put, List.setIfInBounds_toArray, List.set_cons_zero, List.set_cons_succ]
    refine st_to (v := (.bool false)) (some 50) rfl rfl (ex_pkF rfl rfl rfl) ?_
    simp only [Act.put, List.setIfInBounds_toArray, List.set_cons_zero, List.set_cons_succ]
    refine st_to (v := (.bool false)) (some 51) rfl rfl (ex_mv rfl rfl) ?_
    simp only [Act.put, List.setIfInBounds_toArray, List.set_cons_zero, List.set_cons_succ]
    refine st_to (v := (.pointer (some ⟨b1, 40, none⟩))) (some 52) rfl rfl (ex_fa (p := (.pointer (some ⟨b1, 0, none⟩))) rfl rfl (fa26_8 _ _)) ?_
    simp only [Act.put, List.setIfInBounds_toArray, List.set_cons_zero, List.set_cons_succ]
    refine st_to (v := (.int .i64 t.res)) (some 53) rfl rfl (ex_load (p := (.pointer (some ⟨b1, 40, none⟩))) rfl rfl (ld3 (at_cell k1 hT.c40))) ?_
    simp only [Act.put, List.setIfInBounds_toArray, List.set_cons_zero, List.set_cons_succ]
    refine st_to (v := (.bool false)) (some 54) rfl rfl (ex_bin (u := (.int .i64 t.res)) (r := (.int .i64 0)) rfl rfl rfl (eg3 _ _ _ _ _ _) (lss3 _ (decide_eq_false c9))) ?_
    simp only [Act.put, List.setIfInBounds_toArray, List.set_cons_zero, List.set_cons_succ]
    refine st_to (v := (.bool false)) (some 55) rfl rfl (ex_pkF rfl rfl rfl) ?_
    simp only [Act.put, List.setIfInBounds_toArray, List.set_cons_zero, List.set_cons_succ]
    refine st_to (v := (.bool false)) (some 56) rfl rfl (ex_mv rfl rfl) ?_
    simp only [Act.put, List.setIfInBounds_toArray, List.set_cons_zero, List.set_cons_succ]
    refine st_to (v := (.pointer (some ⟨b1, 42, none⟩))) (some 57) rfl rfl (ex_fa (p := (.pointer (some ⟨b1, 0, none⟩))) rfl rfl (fa26_10 _ _)) ?_
    simp only [Act.put, List.setIfInBounds_toArray, List.set_cons_zero, List.set_cons_succ]
    refine st_to (v := (.int .i64 t.fl)) (some 58) rfl rfl (ex_load (p := (.pointer (some ⟨b1, 42, none⟩))) rfl rfl (ld3 (at_cell k1 hT.c42))) ?_
    simp only [Act.put, List.setIfInBounds_toArray, List.set_cons_zero, List.set_cons_succ]
    refine st_to (v := (.bool true)) (some 59) rfl rfl (ex_bin (u := (.int .i64 t.fl)) (r := (.int .i64 0)) rfl rfl rfl (eg3 _ _ _ _ _ _) (lss3 _ (decide_eq_true c10))) ?_
    simp only [Act.put, List.setIfInBounds_toArray, List.set_cons_zero, List.set_cons_succ]
    refine st_to (v := (.bool true)) (some 60) rfl rfl (ex_pkF rfl rfl rfl) ?_
    simp only [Act.put, List.setIfInBounds_toArray, List.set_cons_zero, List.set_cons_succ]
    refine st_to (v := (.bool true)) (some 61) rfl rfl (ex_mv rfl rfl) ?_
    simp only [Act.put, List.setIfInBounds_toArray, List.set_cons_zero, List.set_cons_succ]
    refine st_no (some 62) rfl rfl ?_
    simp only [Act.put, List.setIfInBounds_toArray, List.set_cons_zero, List.set_cons_succ]
    refine st_no (some 63) rfl rfl ?_
    simp only [Act.put, List.setIfInBounds_toArray, List.set_cons_zero, List.set_cons_succ]
    refine st_no (some 64) rfl rfl ?_
    simp only [Act.put, List.setIfInBounds_toArray, List.set_cons_zero, List.set_cons_succ]
    refine st_to (v := (.bool true)) (some 65) rfl rfl (ex_pkT rfl rfl rfl) ?_
    simp only [Act.put, List.setIfInBounds_toArray, List.set_cons_zero, List.set_cons_succ]
    refine st_to (v := (.bool true)) (some 66) rfl rfl (ex_mv rfl rfl) ?_
    simp only [Act.put, List.setIfInBounds_toArray, List.set_cons_zero, List.set_cons_succ]
    refine st_no (some 67) rfl rfl ?_
    simp only [Act.put, List.setIfInBounds_toArray, List.set_cons_zero, List.set_cons_succ]
    refine st_no (some 68) rfl rfl ?_
    simp only [Act.put, List.setIfInBounds_toArray, List.set_cons_zero, List.set_cons_succ]
    refine st_no (some 69) rfl rfl ?_
    simp only [Act.put, List.setIfInBounds_toArray, List.set_cons_zero, List.set_cons_succ]
    refine st_to (v := (.bool true)) (some 70) rfl rfl (ex_pkT rfl rfl rfl) ?_
    simp only [Act.put, List.setIfInBounds_toArray, List.set_cons_zero, List.set_cons_succ]
    refine st_end ?_
    subst hQ
    refine wp_cond_true rfl ?_
    refine wp_seq ?_
    refine wl_in ?_
    refine wl_cap fun Q hQ => ?_
    refine st_to (v := (.bool false)) (some 2) rfl rfl (ex_asg rfl rfl) ?_
    simp only [Act.put, List.setIfInBounds_toArray, List.set_cons_zero, List.set_cons_succ]
    refine st_end ?_
    subst hQ
    refine wp_ret ?_
    refine ret_out ?_
    refine bodyPost_ret (results_tmp Try.results13 _ _ _) rfl ⟨?_, E⟩
    show Ending.returned (.bool false) = _
    rw [decide_eq_false (by omega)]
  by_cases c11 : t.sl < 1
  · skip
    have E : Below w.heap.size w w := Below.refl _ _
    go_enter Try.func13, Try.ntmps13
    refine wp_seq ?_
    refine wl_in ?_
    refine wl_cap fun Q hQ => ?_
    refine st_new (fun b => .pointer (some ⟨b, 0, none⟩)) (some 1) rfl rfl (ex_box rfl rfl) ?_
    intro b1 W1 k1 g1 B
    simp only [Act.put, List.setIfInBounds_toArray, List.set_cons_zero, List.set_cons_succ]
    have ge_b1 := Nat.le_trans E.size g1
    replace E := below_next E B
    clear B
    refine st_to (v := (.bool false)) (some 2) rfl rfl (ex_asg rfl rfl) ?_
    simp only [Act.put, List.setIfInBounds_toArray, List.set_cons_zero, List.set_cons_succ]
    refine st_end ?_
    subst hQ
    refine wp_seq ?_
    refine wp_seq ?_
    refine wl_in ?_
    refine wl_cap fun Q hQ => ?_
    refine st_to (v := (.pointer (some ⟨b1, 0, none⟩))) (some 5) rfl rfl (ex_fa (p := (.pointer (some ⟨b1, 0, none⟩))) rfl rfl (fa26_0 _ _)) ?_
    simp only [Act.put, List.setIfInBounds_toArray, List.set_cons_zero, List.set_cons_succ]
    refine st_to (v := (.int .i64 t.ch)) (some 6) rfl rfl (ex_load (p := (.pointer (some ⟨b1, 0, none⟩))) rfl rfl (ld3 (at_cell k1 hT.c0))) ?_
    simp only [Act.put, List.setIfInBounds_toArray, List.set_cons_zero, List.set_cons_succ]
    refine st_to (v := (.bool false)) (some 7) rfl rfl (ex_bin (u := (.int .i64 t.ch)) (r := (.int .i64 1)) rfl rfl rfl (eg3 _ _ _ _ _ _) (lss3 _ (decide_eq_false c0))) ?_
    simp only [Act.put, List.setIfInBounds_toArray, List.set_cons_zero, List.set_cons_succ]
    refine st_to (v := (.bool false)) (some 8) rfl rfl (ex_mv rfl rfl) ?_
    simp only [Act.put, List.setIfInBounds_toArray, List.set_cons_zero, List.set_cons_succ]
    refine st_to (v := (.pointer (some ⟨b1, 0, none⟩))) (some 9) rfl rfl (ex_fa (p := (.pointer (some ⟨b1, 0, none⟩))) rfl rfl (fa26_0 _ _)) ?_
    simp only [Act.put, List.setIfInBounds_toArray, List.set_cons_zero, List.set_cons_succ]
    refine st_to (v := (.int .i64 t.ch)) (some 10) rfl rfl (ex_load (p := (.pointer (some ⟨b1, 0, none⟩))) rfl rfl (ld3 (at_cell k1 hT.c0))) ?_
    simp only [Act.put, List.setIfInBounds_toArray, List.set_cons_zero, List.set_cons_succ]
    refine st_to (v := (.bool false)) (some 11) rfl rfl (ex_bin (u := (.int .i64 t.ch)) (r := (.int .i64 65535)) rfl rfl rfl (eg3 _ _ _ _ _ _) (gtr3 _ (decide_eq_false c1))) ?_
    simp only [Act.put, List.setIfInBounds_toArray, List.set_cons_zero, List.set_cons_succ]
    refine st_to (v := (.bool false)) (some 12) rfl rfl (ex_pkF rfl rfl rfl) ?_
    simp only [Act.put, List.setIfInBounds_toArray, List.set_cons_zero, List.set_cons_succ]
    refine st_to (v := (.bool false)) (some 13) rfl rfl (ex_mv rfl rfl) ?_
    simp only [Act.put, List.setIfInBounds_toArray, List.set_cons_zero, List.set_cons_succ]
    refine st_to (v := (.pointer (some ⟨b1, 1, none⟩))) (some 14) rfl rfl (ex_fa (p := (.pointer (some ⟨b1, 0, none⟩))) rfl rfl (fa26_1 _ _)) ?_
    simp only [Act.put, List.setIfInBounds_toArray, List.set_cons_zero, List.set_cons_succ]
    refine st_to (v := (.int .i64 t.a)) (some 15) rfl rfl (ex_load (p := (.pointer (some ⟨b1, 1, none⟩))) rfl rfl (ld3 (at_cell k1 hT.c1))) ?_
    simp only [Act.put, List.setIfInBounds_toArray, List.set_cons_zero, List.set_cons_succ]
    refine st_to (v := (.bool false)) (some 16) rfl rfl (ex_bin (u := (.int .i64 t.a)) (r := (.int .i64 0)) rfl rfl rfl (eg3 _ _ _ _ _ _) (lss3 _ (decide_eq_false c2))) ?_
    simp only [Act.put, List.setIfInBounds_toArray, List.set_cons_zero, List.set_cons_succ]
    refine st_to (v := (.bool false)) (some 17) rfl rfl (ex_pkF rfl rfl rfl) ?_
    simp only [Act.put, List.setIfInBounds_toArray, List.set_cons_zero, List.set_cons_succ]
    refine st_to (v := (.bool false)) (some 18) rfl rfl (ex_mv rfl rfl) ?_
    simp only [Act.put, List.setIfInBounds_toArray, List.set_cons_zero, List.set_cons_succ]
    refine st_to (v := (.pointer (some ⟨b1, 2, none⟩))) (some 19) rfl rfl (ex_fa (p := (.pointer (some ⟨b1, 0, none⟩))) rfl rfl (fa26_2 _ _)) ?_
    simp only [Act.put, List.setIfInBounds_toArray, List.set_cons_zero, List.set_cons_succ]
    refine st_to (v := (.int .i64 t.b)) (some 20) rfl rfl (ex_load (p := (.pointer (some ⟨b1, 2, none⟩))) rfl rfl (ld3 (at_cell k1 hT.c2))) ?_
    simp only [Act.put, List.setIfInBounds_toArray, List.set_cons_zero, List.set_cons_succ]
    refine st_to (v := (.bool false)) (some 21) rfl rfl (ex_bin (u := (.int .i64 t.b)) (r := (.int .i64 7)) rfl rfl rfl (eg3 _ _ _ _ _ _) (gtr3 _ (decide_eq_false c3))) ?_
    simp only [Act.put, List.setIfInBounds_toArray, List.set_cons_zero, List.set_cons_succ]
    refine st_to (v := (.bool false)) (some 22) rfl rfl (ex_pkF rfl rfl rfl) ?_
    simp only [Act.put, List.setIfInBounds_toArray, List.set_cons_zero, List.set_cons_succ]
    refine st_to (v := (.bool false)) (some 23) rfl rfl (ex_mv rfl rfl) ?_
    simp only [Act.put, List.setIfInBounds_toArray, List.set_cons_zero, List.set_cons_succ]
    refine st_to (v := (.pointer (some ⟨b1, 1, none⟩))) (some 24) rfl rfl (ex_fa (p := (.pointer (some ⟨b1, 0, none⟩))) rfl rfl (fa26_1 _ _)) ?_
    simp only [Act.put, List.setIfInBounds_toArray, List.set_cons_zero, List.set_cons_succ]
    refine st_to (v := (.int .i64 t.a)) (some 25) rfl rfl (ex_load (p := (.pointer (some ⟨b1, 1, none⟩))) rfl rfl (ld3 (at_cell k1 hT.c1))) ?_
    simp only [Act.put, List.setIfInBounds_toArray, List.set_cons_zero, List.set_cons_succ]
    refine st_to (v := (.pointer (some ⟨b1, 2, none⟩))) (some 26) rfl rfl (ex_fa (p := (.pointer (some ⟨b1, 0, none⟩))) rfl rfl (fa26_2 _ _)) ?_
    simp only [Act.put, List.setIfInBounds_toArray, List.set_cons_zero, List.set_cons_succ]
    refine st_to (v := (.int .i64 t.b)) (some 27) rfl rfl (ex_load (p := (.pointer (some ⟨b1, 2, none⟩))) rfl rfl (ld3 (at_cell k1 hT.c2))) ?_
    simp only [Act.put, List.setIfInBounds_toArray, List.set_cons_zero, List.set_cons_succ]
    refine st_to (v := (.bool false)) (some 28) rfl rfl (ex_bin (u := (.int .i64 t.a)) (r := (.int .i64 t.b)) rfl rfl rfl (eg3 _ _ _ _ _ _) (geq3 _ (decide_eq_false c4))) ?_
    simp only [Act.put, List.setIfInBounds_toArray, List.set_cons_zero, List.set_cons_succ]
    refine st_to (v := (.bool false)) (some 29) rfl rfl (ex_pkF rfl rfl rfl) ?_
    simp only [Act.put, List.setIfInBounds_toArray, List.set_cons_zero, List.set_cons_succ]
    refine st_to (v := (.bool false)) (some 30) rfl rfl (ex_mv rfl rfl) ?_
    simp only [Act.put, List.setIfInBounds_toArray, List.set_cons_zero, List.set_cons_succ]
    refine st_to (v := (.pointer (some ⟨b1, 3, none⟩))) (some 31) rfl rfl (ex_fa (p := (.pointer (some ⟨b1, 0, none⟩))) rfl rfl (fa26_3 _ _)) ?_
    simp only [Act.put, List.setIfInBounds_toArray, List.set_cons_zero, List.set_cons_succ]
    refine st_to (v := (.pointer (some ⟨b1, 35, none⟩))) (some 32) rfl rfl (ex_fa rfl rfl (faR _ 0 _)) ?_
    simp only [Act.put, List.setIfInBounds_toArray, List.set_cons_zero, List.set_cons_succ]
    refine st_to (v := (.int .i64 t.fo)) (some 33) rfl rfl (ex_load (p := (.pointer (some ⟨b1, 35, none⟩))) rfl rfl (ld3 (at_cell k1 hT.c35))) ?_
    simp only [Act.put, List.setIfInBounds_toArray, List.set_cons_zero, List.set_cons_succ]
    refine st_to (v := (.bool false)) (some 34) rfl rfl (ex_bin (u := (.int .i64 t.fo)) (r := (.int .i64 0)) rfl rfl rfl (eg3 _ _ _ _ _ _) (lss3 _ (decide_eq_false c5))) ?_
    simp only [Act.put, List.setIfInBounds_toArray, List.set_cons_zero, List.set_cons_succ]
    refine st_to (v := (.bool false)) (some 35) rfl rfl (ex_pkF rfl rfl rfl) ?_
    simp only [Act.put, List.setIfInBounds_toArray, List.set_cons_zero, List.set_cons_succ]
    refine st_to (v := (.bool false)) (some 36) rfl rfl (ex_mv rfl rfl) ?_
    simp only [Act.put, List.setIfInBounds_toArray, List.set_cons_zero, List.set_cons_succ]
    refine st_to (v := (.pointer (some ⟨b1, 38, none⟩))) (some 37) rfl rfl (ex_fa (p := (.pointer (some ⟨b1, 0, none⟩))) rfl rfl (fa26_6 _ _)) ?_
    simp only [Act.put, List.setIfInBounds_toArray, List.set_cons_zero, List.set_cons_succ]
    refine st_to (v := (.int .i64 t.d)) (some 38) rfl rfl (ex_load (p := (.pointer (some ⟨b1, 38, none⟩))) rfl rfl (ld3 (at_cell k1 hT.c38))) ?_
    simp only [Act.put, List.setIfInBounds_toArray, List.set_cons_zero, List.set_cons_succ]
    refine st_to (v := (.bool false)) (some 39) rfl rfl (ex_bin (u := (.int .i64 t.d)) (r := (.int .i64 1)) rfl rfl rfl (eg3 _ _ _ _ _ _) (lss3 _ (decide_eq_false c6))) ?_
    simp only [Act.put, List.setIfInBounds_toArray, List.set_cons_zero, List.set_cons_succ]
    refine st_to (v := (.bool false)) (some 40) rfl rfl (ex_pkF rfl rfl rfl) ?_
    simp only [Act.put, List.setIfInBounds_toArray, List.set_cons_zero, List.set_cons_succ]
    refine st_to (v := (.bool false)) (some 41) rfl rfl (ex_mv rfl rfl) ?_
    simp only [Act.put, List.setIfInBounds_toArray, List.set_cons_zero, List.set_cons_succ]
    refine st_to (v := (.pointer (some ⟨b1, 38, none⟩))) (some 42) rfl rfl (ex_fa (p := (.pointer (some ⟨b1, 0, none⟩))) rfl rfl (fa26_6 _ _)) ?_
    simp only [Act.put, List.setIfInBounds_toArray, List.set_cons_zero, List.set_cons_succ]
    refine st_to (v := (.int .i64 t.d)) (some 43) rfl rfl (ex_load (p := (.pointer (some ⟨b1, 38, none⟩))) rfl rfl (ld3 (at_cell k1 hT.c38))) ?_
    simp only [Act.put, List.setIfInBounds_toArray, List.set_cons_zero, List.set_cons_succ]
    refine st_to (v := (.bool false)) (some 44) rfl rfl (ex_bin (u := (.int .i64 t.d)) (r := (.int .i64 1000)) rfl rfl rfl (eg3 _ _ _ _ _ _) (gtr3 _ (decide_eq_false c7))) ?_
    simp only [Act.put, List.setIfInBounds_toArray, List.set_cons_zero, List.set_cons_succ]
    refine st_to (v := (.bool false)) (some 45) rfl rfl (ex_pkF rfl rfl rfl) ?_
    simp only [Act.put, List.setIfInBounds_toArray, List.set_cons_zero, List.set_cons_succ]
    refine st_to (v := (.bool false)) (some 46) rfl rfl (ex_mv rfl rfl) ?_
    simp only [Act.put, List.setIfInBounds_toArray, List.set_cons_zero, List.set_cons_succ]
    refine st_to (v := (.pointer (some ⟨b1, 39, none⟩))) (some 47) rfl rfl (ex_fa (p := (.pointer (some ⟨b1, 0, none⟩))) rfl rfl (fa26_7 _ _)) ?_
    simp only [Act.put, List.setIfInBounds_toArray, List.set_cons_zero, List.set_cons_succ]
    refine st_to (v := (.int .i64 t.fee)) (some 48) rfl rfl (ex_load (p := (.pointer (some ⟨b1, 39, none⟩))) rfl rfl (ld3 (at_cell k1 hT.c39))) ?_
    simp only [Act.put, List.setIfInBounds_toArray, List.set_cons_zero, List.set_cons_succ]
    refine st_to (v := (.bool false)) (some 49) rfl rfl (ex_bin (u := (.int .i64 t.fee)) (r := (.int .i64 0)) rfl rfl rfl (eg3 _ _ _ _ _ _) (lss3 _ (decide_eq_false c8))) ?_
    simp only [Act.put, List.setIfInBounds_toArray, List.set_cons_zero, List.set_cons_succ]
    refine st_to (v := (.bool false)) (some 50) rfl rfl (ex_pkF rfl rfl rfl) ?_
    simp only [Act.put, List.setIfInBounds_toArray, List.set_cons_zero, List.set_cons_succ]
    refine st_to (v := (.bool false)) (some 51) rfl rfl (ex_mv rfl rfl) ?_
    simp only [Act.put, List.setIfInBounds_toArray, List.set_cons_zero, List.set_cons_succ]
    refine st_to (v := (.pointer (some ⟨b1, 40, none⟩))) (some 52) rfl rfl (ex_fa (p := (.pointer (some ⟨b1, 0, none⟩))) rfl rfl (fa26_8 _ _)) ?_
    simp only [Act.put, List.setIfInBounds_toArray, List.set_cons_zero, List.set_cons_succ]
    refine st_to (v := (.int .i64 t.res)) (some 53) rfl rfl (ex_load (p := (.pointer (some ⟨b1, 40, none⟩))) rfl rfl (ld3 (at_cell k1 hT.c40))) ?_
    simp only [Act.put, List.setIfInBounds_toArray, List.set_cons_zero, List.set_cons_succ]
    refine st_to (v := (.bool false)) (some 54) rfl rfl (ex_bin (u := (.int .i64 t.res)) (r := (.int .i64 0)) rfl rfl rfl (eg3 _ _ _ _ _ _) (lss3 _ (decide_eq_false c9))) ?_
    simp only [Act.put, List.setIfInBounds_toArray, List.set_cons_zero, List.set_cons_succ]
    refine st_to (v := (.bool false)) (some 55) rfl rfl (ex_pkF rfl rfl rfl) ?_
    simp only [Act.put, List.setIfInBounds_toArray, List.set_cons_zero, List.set_cons_succ]
    refine st_to (v := (.bool false)) (some 56) rfl rfl (ex_mv rfl rfl) ?_
    simp only [Act.put, List.setIfInBounds_toArray, List.set_cons_zero, List.set_cons_succ]
    refine st_to (v := (.pointer (some ⟨b1, 42, none⟩))) (some 57) rfl rfl (ex_fa (p := (.pointer (some ⟨b1, 0, none⟩))) rfl rfl (fa26_10 _ _)) ?_
    simp only [Act.put, List.setIfInBounds_toArray, List.set_cons_zero, List.set_cons_succ]
    refine st_to (v := (.int .i64 t.fl)) (some 58) rfl rfl (ex_load (p := (.pointer (some ⟨b1, 42, none⟩))) rfl rfl (ld3 (at_cell k1 hT.c42))) ?_
    simp only [Act.put, List.setIfInBounds_toArray, List.set_cons_zero, List.set_cons_succ]
    refine st_to (v := (.bool false)) (some 59) rfl rfl (ex_bin (u := (.int .i64 t.fl)) (r := (.int .i64 0)) rfl rfl rfl (eg3 _ _ _ _ _ _) (lss3 _ (decide_eq_false c10))) ?_
    simp only [Act.put, List.setIfInBounds_toArray, List.set_cons_zero, List.set_cons_succ]
    refine st_to (v := (.bool false)) (some 60) rfl rfl (ex_pkF rfl rfl rfl) ?_
    simp only [Act.put, List.setIfInBounds_toArray, List.set_cons_zero, List.set_cons_succ]
    refine st_to (v := (.bool false)) (some 61) rfl rfl (ex_mv rfl rfl) ?_
    simp only [Act.put, List.setIfInBounds_toArray, List.set_cons_zero, List.set_cons_succ]
    refine st_to (v := (.pointer (some ⟨b1, 41, none⟩))) (some 62) rfl rfl (ex_fa (p := (.pointer (some ⟨b1, 0, none⟩))) rfl rfl (fa26_9 _ _)) ?_
    simp only [Act.put, List.setIfInBounds_toArray, List.set_cons_zero, List.set_cons_succ]
    refine st_to (v := (.int .i64 t.sl)) (some 63) rfl rfl (ex_load (p := (.pointer (some ⟨b1, 41, none⟩))) rfl rfl (ld3 (at_cell k1 hT.c41))) ?_
    simp only [Act.put, List.setIfInBounds_toArray, List.set_cons_zero, List.set_cons_succ]
    refine st_to (v := (.bool true)) (some 64) rfl rfl (ex_bin (u := (.int .i64 t.sl)) (r := (.int .i64 1)) rfl rfl rfl (eg3 _ _ _ _ _ _) (lss3 _ (decide_eq_true c11))) ?_
    simp only [Act.put, List.setIfInBounds_toArray, List.set_cons_zero, List.set_cons_succ]
    refine st_to (v := (.bool true)) (some 65) rfl rfl (ex_pkF rfl rfl rfl) ?_
    simp only [Act.put, List.setIfInBounds_toArray, List.set_cons_zero, List.set_cons_succ]
    refine st_to (v := (.bool true)) (some 66) rfl rfl (ex_mv rfl rfl) ?_
    simp only [Act.put, List.setIfInBounds_toArray, List.set_cons_zero, List.set_cons_succ]
    refine st_no (some 67) rfl rfl ?_
    simp only [Act.put, List.setIfInBounds_toArray, List.set_cons_zero, List.set_cons_succ]
    refine st_no (some 68) rfl rfl ?_
    simp only [Act.put, List.setIfInBounds_toArray, List.set_cons_zero, List.set_cons_succ]
    refine st_no (some 69) rfl rfl ?_
    simp only [Act.put, List.setIfInBounds_toArray, List.set_cons_zero, List.set_cons_succ]
    refine st_to (v := (.bool true)) (some 70) rfl rfl (ex_pkT rfl rfl rfl) ?_
    simp only [Act.put, List.setIfInBounds_toArray, List.set_cons_zero, List.set_cons_succ]
    refine st_end ?_
    subst hQ
    refine wp_cond_true rfl ?_
    refine wp_seq ?_
    refine wl_in ?_
    refine wl_cap fun Q hQ => ?_
    refine st_to (v := (.bool false)) (some 2) rfl rfl (ex_asg rfl rfl) ?_
    simp only [Act.put, List.setIfInBounds_toArray, List.set_cons_zero, List.set_cons_succ]
    refine st_end ?_
    subst hQ
    refine wp_ret ?_
    refine ret_out ?_
    refine bodyPost_ret (results_tmp Try.results13 _ _ _) rfl ⟨?_, E⟩
    show Ending.returned (.bool false) = _
    rw [decide_eq_false (by omega)]
  by_cases c12 : 16 < t.sl
  · skip
    have E : Below w.heap.size w w := Below.refl _ _
    go_enter Try.func13, Try.ntmps13
    refine wp_seq ?_
    refine wl_in ?_
    refine wl_cap fun Q hQ => ?_
    refine st_new (fun b => .pointer (some ⟨b, 0, none⟩)) (some 1) rfl rfl (ex_box rfl rfl) ?_
    intro b1 W1 k1 g1 B
    simp only [Act.put, List.setIfInBounds_toArray, List.set_cons_zero, List.set_cons_succ]
    have ge_b1 := Nat.le_trans E.size g1
    replace E := below_next E B
    clear B
    refine st_to (v := (.bool false)) (some 2) rfl rfl (ex_asg rfl rfl) ?_
    simp only [Act.put, List.setIfInBounds_toArray, List.set_cons_zero, List.set_cons_succ]
    refine st_end ?_
    subst hQ
    refine wp_seq ?_
    refine wp_seq ?_
    refine wl_in ?_
    refine wl_cap fun Q hQ => ?_
    refine st_to (v := (.pointer (some ⟨b1, 0, none⟩))) (some 5) rfl rfl (ex_fa (p := (.pointer (some ⟨b1, 0, none⟩))) rfl rfl (fa26_0 _ _)) ?_
    simp only [Act.put, List.setIfInBounds_toArray, List.set_cons_zero, List.set_cons_succ]
    refine st_to (v := (.int .i64 t.ch)) (some 6) rfl rfl (ex_load (p := (.pointer (some ⟨b1, 0, none⟩))) rfl rfl (ld3 (at_cell k1 hT.c0))) ?_
    simp only [Act.put, List.setIfInBounds_toArray, List.set_cons_zero, List.set_cons_succ]
    refine st_to (v := (.bool false)) (some 7) rfl rfl (ex_bin (u := (.int .i64 t.ch)) (r := (.int .i64 1)) rfl rfl rfl (eg3 _ _ _ _ _ _) (lss3 _ (decide_eq_false c0))) ?_
    simp only [Act.put, List.setIfInBounds_toArray, List.set_cons_zero, List.set_cons_succ]
    refine st_to (v := (.bool false)) (some 8) rfl rfl (ex_mv rfl rfl) ?_
    simp only [Act.put, List.setIfInBounds_toArray, List.set_cons_zero, List.set_cons_succ]
    refine st_to (v := (.pointer (some ⟨b1, 0, none⟩))) (some 9) rfl rfl (ex_fa (p := (.pointer (some ⟨b1, 0, none⟩))) rfl rfl (fa26_0 _ _)) ?_
    simp only [Act.put, List.setIfInBounds_toArray, List.set_cons_zero, List.set_cons_succ]
    refine st_to (v := (.int .i64 t.ch)) (some 10) rfl rfl (ex_load (p := (.pointer (some ⟨b1, 0, none⟩))) rfl rfl (ld3 (at_cell k1 hT.c0))) ?_
    simp only [Act.put, List.setIfInBounds_toArray, List.set_cons_zero, List.set_cons_succ]
    refine st_to (v := (.bool false)) (some 11) rfl rfl (ex_bin (u := (.int .i64 t.ch)) (r := (.int .i64 65535)) rfl rfl rfl (eg3 _ _ _ _ _ _) (gtr3 _ (decide_eq_false c1))) ?_
    simp only [Act.put, List.setIfInBounds_toArray, List.set_cons_zero, List.set_cons_succ]
    refine st_to (v := (.bool false)) (some 12) rfl rfl (ex_pkF rfl rfl rfl) ?_
    simp only [Act.put, List.setIfInBounds_toArray, List.set_cons_zero, List.set_cons_succ]
    refine st_to (v := (.bool false)) (some 13) rfl rfl (ex_mv rfl rfl) ?_
    simp only [Act.put, List.setIfInBounds_toArray, List.set_cons_zero, List.set_cons_succ]
    refine st_to (v := (.pointer (some ⟨b1, 1, none⟩))) (some 14) rfl rfl (ex_fa (p := (.pointer (some ⟨b1, 0, none⟩))) rfl rfl (fa26_1 _ _)) ?_
    simp only [Act.put, List.setIfInBounds_toArray, List.set_cons_zero, List.set_cons_succ]
    refine st_to (v := (.int .i64 t.a)) (some 15) rfl rfl (ex_load (p := (.pointer (some ⟨b1, 1, none⟩))) rfl rfl (ld3 (at_cell k1 hT.c1))) ?_
    simp only [Act.put, List.setIfInBounds_toArray, List.set_cons_zero, List.set_cons_succ]
    refine st_to (v := (.bool false)) (some 16) rfl rfl (ex_bin (u := (.int .i64 t.a)) (r := (.int .i64 0)) rfl rfl rfl (eg3 _ _ _ _ _ _) (lss3 _ (decide_eq_false c2))) ?_
    simp only [Act.put, List.setIfInBounds_toArray, List.set_cons_zero, List.set_cons_succ]
    refine st_to (v := (.bool false)) (some 17) rfl rfl (ex_pkF rfl rfl rfl) ?_
    simp only [Act.put, List.setIfInBounds_toArray, List.set_cons_zero, List.set_cons_succ]
    refine st_to (v := (.bool false)) (some 18) rfl rfl (ex_mv rfl rfl) ?_
    simp only [Act.put, List.setIfInBounds_toArray, List.set_cons_zero, List.set_cons_succ]
    refine st_to (v := (.pointer (some ⟨b1, 2, none⟩))) (some 19) rfl rfl (ex_fa (p := (.pointer (some ⟨b1, 0, none⟩))) rfl rfl (fa26_2 _ _)) ?_
    simp only [Act.put, List.setIfInBounds_toArray, List.set_cons_zero, List.set_cons_succ]
    refine st_to (v := (.int .i64 t.b)) (some 20) rfl rfl (ex_load (p := (.pointer (some ⟨b1, 2, none⟩))) rfl rfl (ld3 (at_cell k1 hT.c2))) ?_
    simp only [Act.put, List.setIfInBounds_toArray, List.set_cons_zero, List.set_cons_succ]
    refine st_to (v := (.bool false)) (some 21) rfl rfl (ex_bin (u := (.int .i64 t.b)) (r := (.int .i64 7)) rfl rfl rfl (eg3 _ _ _ _ _ _) (gtr3 _ (decide_eq_false c3))) ?_
    simp only [Act.put, List.setIfInBounds_toArray, List.set_cons_zero, List.set_cons_succ]
    refine st_to (v := (.bool false)) (some 22) rfl rfl (ex_pkF rfl rfl rfl) ?_
    simp only [Act.put, List.setIfInBounds_toArray, List.set_cons_zero, List.set_cons_succ]
    refine st_to (v := (.bool false)) (some 23) rfl rfl (ex_mv rfl rfl) ?_
    simp only [Act.put, List.setIfInBounds_toArray, List.set_cons_zero, List.set_cons_succ]
    refine st_to (v := (.pointer (some ⟨b1, 1, none⟩))) (some 24) rfl rfl (ex_fa (p := (.pointer (some ⟨b1, 0, none⟩))) rfl rfl (fa26_1 _ _)) ?_
    simp only [Act.put, List.setIfInBounds_toArray, List.set_cons_zero, List.set_cons_succ]
    refine st_to (v := (.int .i64 t.a)) (some 25) rfl rfl (ex_load (p := (.pointer (some ⟨b1, 1, none⟩))) rfl rfl (ld3 (at_cell k1 hT.c1))) ?_
    simp only [Act.put, List.setIfInBounds_toArray, List.set_cons_zero, List.set_cons_succ]
    refine st_to (v := (.pointer (some ⟨b1, 2, none⟩))) (some 26) rfl rfl (ex_fa (p := (.pointer (some ⟨b1, 0, none⟩))) rfl rfl (fa26_2 _ _)) ?_
    simp only [Act.put, List.setIfInBounds_toArray, List.set_cons_zero, List.set_cons_succ]
    refine st_to (v := (.int .i64 t.b)) (some 27) rfl rfl (ex_load (p := (.pointer (some ⟨b1, 2, none⟩))) rfl rfl (ld3 (at_cell k1 hT.c2))) ?_
    simp only [Act.put, List.setIfInBounds_toArray, List.set_cons_zero, List.set_cons_succ]
    refine st_to (v := (.bool false)) (some 28) rfl rfl (ex_bin (u := (.int .i64 t.a)) (r := (.int .i64 t.b)) rfl rfl rfl (eg3 _ _ _ _ _ _) (geq3 _ (decide_eq_false c4))) ?_
    simp only [Act.put, List.setIfInBounds_toArray, List.set_cons_zero, List.set_cons_succ]
    refine st_to (v := (.bool false)) (some 29) rfl rfl (ex_pkF rfl rfl rfl) ?_
    simp only [Act.put, List.setIfInBounds_toArray, List.set_cons_zero, List.set_cons_succ]
    refine st_to (v := (.bool false)) (some 30) rfl rfl (ex_mv rfl rfl) ?_
    simp only [Act.put, List.setIfInBounds_toArray, List.set_cons_zero, List.set_cons_succ]
    refine st_to (v := (.pointer (some ⟨b1, 3, none⟩))) (some 31) rfl rfl (ex_fa (p := (.pointer (some ⟨b1, 0, none⟩))) rfl rfl (fa26_3 _ _)) ?_
    simp only [Act.put, List.setIfInBounds_toArray, List.set_cons_zero, List.set_cons_succ]
    refine st_to (v := (.pointer (some ⟨b1, 35, none⟩))) (some 32) rfl rfl (ex_fa rfl rfl (faR _ 0 _)) ?_
    simp only [Act.put, List.setIfInBounds_toArray, List.set_cons_zero, List.set_cons_succ]
    refine st_to (v := (.int .i64 t.fo)) (some 33) rfl rfl (ex_load (p := (.pointer (some ⟨b1, 35, none⟩))) rfl rfl (ld3 (at_cell k1 hT.c35))) ?_
    simp only [Act.put, List.setIfInBounds_toArray, List.set_cons_zero, List.set_cons_succ]
    refine st_to (v := (.bool false)) (some 34) rfl rfl (ex_bin (u := (.int .i64 t.fo)) (r := (.int .i64 0)) rfl rfl rfl (eg3 _ _ _ _ _ _) (lss3 _ (decide_eq_false c5))) ?_
    simp only [Act.put, List.setIfInBounds_toArray, List.set_cons_zero, List.set_cons_succ]
    refine st_to (v := (.bool false)) (some 35) rfl rfl (ex_pkF rfl rfl rfl) ?_
    simp only [Act.put, List.setIfInBounds_toArray, List.set_cons_zero, List.set_cons_succ]
    refine st_to (v := (.bool false)) (some 36) rfl rfl (ex_mv rfl rfl) ?_
    simp only [Act.put, List.setIfInBounds_toArray, List.set_cons_zero, List.set_cons_succ]
    refine st_to (v := (.pointer (some ⟨b1, 38, none⟩))) (some 37) rfl rfl (ex_fa (p := (.pointer (some ⟨b1, 0, none⟩))) rfl rfl (fa26_6 _ _)) ?_
    simp only [Act.put, List.setIfInBounds_toArray, List.set_cons_zero, List.set_cons_succ]
    refine st_to (v := (.int .i64 t.d)) (some 38) rfl rfl (ex_load (p := (.pointer (some ⟨b1, 38, none⟩))) rfl rfl (ld3 (at_cell k1 hT.c38))) ?_
    simp only [Act.put, List.setIfInBounds_toArray, List.set_cons_zero, List.set_cons_succ]
    refine st_to (v := (.bool false)) (some 39) rfl rfl (ex_bin (u := (.int .i64 t.d)) (r := (.int .i64 1)) rfl rfl rfl (eg3 _ _ _ _ _ _) (lss3 _ (decide_eq_false c6))) ?_
    simp only [Act.put, List.setIfInBounds_toArray, List.set_cons_zero, List.set_cons_succ]
    refine st_to (v := (.bool false)) (some 40) rfl rfl (ex_pkF rfl rfl rfl) ?_
    simp only [Act.put, List.setIfInBounds_toArray, List.set_cons_zero, List.set_cons_succ]
    refine st_to (v := (.bool false)) (some 41) rfl rfl (ex_mv rfl rfl) ?_
    simp only [Act.put, List.setIfInBounds_toArray, List.set_cons_zero, List.set_cons_succ]
    refine st_to (v := (.pointer (some ⟨b1, 38, none⟩))) (some 42) rfl rfl (ex_fa (p := (.pointer (some ⟨b1, 0, none⟩))) rfl rfl (fa26_6 _ _)) ?_
    simp only [Act.put, List.setIfInBounds_toArray, List.set_cons_zero, List.set_cons_succ]
    refine st_to (v := (.int .i64 t.d)) (some 43) rfl rfl (ex_load (p := (.pointer (some ⟨b1, 38, none⟩))) rfl rfl (ld3 (at_cell k1 hT.c38))) ?_
    simp only [Act.put, List.setIfInBounds_toArray, List.set_cons_zero, List.set_cons_succ]
    refine st_to (v := (.bool false)) (some 44) rfl rfl (ex_bin (u := (.int .i64 t.d)) (r := (.int .i64 1000)) rfl rfl rfl (eg3 _ _ _ _ _ _) (gtr3 _ (decide_eq_false c7))) ?_
    simp only [Act.put, List.setIfInBounds_toArray, List.set_cons_zero, List.set_cons_succ]
    refine st_to (v := (.bool false)) (some 45) rfl rfl (ex_pkF rfl rfl rfl) ?_
    simp only [Act.put, List.setIfInBounds_toArray, List.set_cons_zero, List.set_cons_succ]
    refine st_to (v := (.bool false)) (some 46) rfl rfl (ex_mv rfl rfl) ?_
    simp only [Act.put, List.setIfInBounds_toArray, List.set_cons_zero, List.set_cons_succ]
    refine st_to (v := (.pointer (some ⟨b1, 39, none⟩))) (some 47) rfl rfl (ex_fa (p := (.pointer (some ⟨b1, 0, none⟩))) rfl rfl (fa26_7 _ _)) ?_
    simp only [Act.put, List.setIfInBounds_toArray, List.set_cons_zero, List.set_cons_succ]
    refine st_to (v := (.int .i64 t.fee)) (some 48) rfl rfl (ex_load (p := (.pointer (some ⟨b1, 39, none⟩))) rfl rfl (ld3 (at_cell k1 hT.c39))) ?_
    simp only [Act.put, List.setIfInBounds_toArray, List.set_cons_zero, List.set_cons_succ]
    refine st_to (v := (.bool false)) (some 49) rfl rfl (ex_bin (u := (.int .i64 t.fee)) (r := (.int .i64 0)) rfl rfl rfl (eg3 _ _ _ _ _ _) (lss3 _ (decide_eq_false c8))) ?_
    simp only [Act.put, List.setIfInBounds_toArray, List.set_cons_zero, List.set_cons_succ]
    refine st_to (v := (.bool false)) (some 50) rfl rfl (ex_pkF rfl rfl rfl) ?_
    simp only [Act.put, List.setIfInBounds_toArray, List.set_cons_zero, List.set_cons_succ]
    refine st_to (v := (.bool false)) (some 51) rfl rfl (ex_mv rfl rfl) ?_
    simp only [Act.put, List.setIfInBounds_toArray, List.set_cons_zero, List.set_cons_succ]
    refine st_to (v := (.pointer (some ⟨b1, 40, none⟩))) (some 52) rfl rfl (ex_fa (p := (.pointer (some ⟨b1, 0, none⟩))) rfl rfl (fa26_8 _ _)) ?_
    simp only [Act.put, List.setIfInBounds_toArray, List.set_cons_zero, List.set_cons_succ]
    refine st_to (v := (.int .i64 t.res)) (some 53) rfl rfl (ex_load (p := (.pointer (some ⟨b1, 40, none⟩))) rfl rfl (ld3 (at_cell k1 hT.c40))) ?_
    simp only [Act.put, List.setIfInBounds_toArray, List.set_cons_zero, List.set_cons_succ]
    refine st_to (v := (.bool false)) (some 54) rfl rfl (ex_bin (u := (.int .i64 t.res)) (r := (.int .i64 0)) rfl rfl rfl (eg3 _ _ _ _ _ _) (lss3 _ (decide_eq_false c9))) ?_
    simp only [Act.put, List.setIfInBounds_toArray, List.set_cons_zero, List.set_cons_succ]
    refine st_to (v := (.bool false)) (some 55) rfl rfl (ex_pkF rfl rfl rfl) ?_
    simp only [Act.put, List.setIfInBounds_toArray, List.set_cons_zero, List.set_cons_succ]
    refine st_to (v := (.bool false)) (some 56) rfl rfl (ex_mv rfl rfl) ?_
    simp only [Act.put, List.setIfInBounds_toArray, List.set_cons_zero, List.set_cons_succ]
    refine st_to (v := (.pointer (some ⟨b1, 42, none⟩))) (some 57) rfl rfl (ex_fa (p := (.pointer (some ⟨b1, 0, none⟩))) rfl rfl (fa26_10 _ _)) ?_
    simp only [Act.put, List.setIfInBounds_toArray, List.set_cons_zero, List.set_cons_succ]
    refine st_to (v := (.int .i64 t.fl)) (some 58) rfl rfl (ex_load (p := (.pointer (some ⟨b1, 42, none⟩))) rfl rfl (ld3 (at_cell k1 hT.c42))) ?_
    simp only [Act.put, List.setIfInBounds_toArray, List.set_cons_zero, List.set_cons_succ]
    refine st_to (v := (.bool false)) (some 59) rfl rfl (ex_bin (u := (.int .i64 t.fl)) (r := (.int .i64 0)) rfl rfl rfl (eg3 _ _ _ _ _ _) (lss3 _ (decide_eq_false c10))) ?_
    simp only [Act.put, List.setIfInBounds_toArray, List.set_cons_zero, List.set_cons_succ]
    refine st_to (v := (.bool false)) (some 60) rfl rfl (ex_pkF rfl rfl rfl) ?_
    simp only [Act.put, List.setIfInBounds_toArray, List.set_cons_zero, List.set_cons_succ]
    refine st_to (v := (.bool false)) (some 61) rfl rfl (ex_mv rfl rfl) ?_
    simp only [Act.put, List.setIfInBounds_toArray, List.set_cons_zero, List.set_cons_succ]
    refine st_to (v := (.pointer (some ⟨b1, 41, none⟩))) (some 62) rfl rfl (ex_fa (p := (.pointer (some ⟨b1, 0, none⟩))) rfl rfl (fa26_9 _ _)) ?_
    simp only [Act.put, List.setIfInBounds_toArray, List.set_cons_zero, List.set_cons_succ]
    refine st_to (v := (.int .i64 t.sl)) (some 63) rfl rfl (ex_load (p := (.pointer (some ⟨b1, 41, none⟩))) rfl rfl (ld3 (at_cell k1 hT.c41))) ?_
    simp only [Act.put, List.setIfInBounds_toArray, List.set_cons_zero, List.set_cons_succ]
    refine st_to (v := (.bool false)) (some 64) rfl rfl (ex_bin (u := (.int .i64 t.sl)) (r := (.int .i64 1)) rfl rfl rfl (eg3 _ _ _ _ _ _) (lss3 _ (decide_eq_false c11))) ?_
    simp only [Act.put, List.setIfInBounds_toArray, List.set_cons_zero, List.set_cons_succ]
    refine st_to (v := (.bool false)) (some 65) rfl rfl (ex_pkF rfl rfl rfl) ?_
    simp only [Act.put, List.setIfInBounds_toArray, List.set_cons_zero, List.set_cons_succ]
    refine st_to (v := (.bool false)) (some 66) rfl rfl (ex_mv rfl rfl) ?_
    simp only [Act.put, List.setIfInBounds_toArray, List.set_cons_zero, List.set_cons_succ]
    refine st_to (v := (.pointer (some ⟨b1, 41, none⟩))) (some 67) rfl rfl (ex_fa (p := (.pointer (some ⟨b1, 0, none⟩))) rfl rfl (fa26_9 _ _)) ?_
    simp only [Act.put, List.setIfInBounds_toArray, List.set_cons_zero, List.set_cons_succ]
    refine st_to (v := (.int .i64 t.sl)) (some 68) rfl rfl (ex_load (p := (.pointer (some ⟨b1, 41, none⟩))) rfl rfl (ld3 (at_cell k1 hT.c41))) ?_
    simp only [Act.put, List.setIfInBounds_toArray, List.set_cons_zero, List.set_cons_succ]
    refine st_to (v := (.bool true)) (some 69) rfl rfl (ex_bin (u := (.int .i64 t.sl)) (r := (.int .i64 16)) rfl rfl rfl (eg3 _ _ _ _ _ _) (gtr3 _ (decide_eq_true c12))) ?_
    simp only [Act.put, List.setIfInBounds_toArray, List.set_cons_zero, List.set_cons_succ]
    refine st_to (v := (.bool true)) (some 70) rfl rfl (ex_pkF rfl rfl rfl) ?_
    simp only [Act.put, List.setIfInBounds_toArray, List.set_cons_zero, List.set_cons_succ]
    refine st_end ?_
    subst hQ
    refine wp_cond_true rfl ?_
    refine wp_seq ?_
    refine wl_in ?_
    refine wl_cap fun Q hQ => ?_
    refine st_to (v := (.bool false)) (some 2) rfl rfl (ex_asg rfl rfl) ?_
    simp only [Act.put, List.setIfInBounds_toArray, List.set_cons_zero, List.set_cons_succ]
    refine st_end ?_
    subst hQ
    refine wp_ret ?_
    refine ret_out ?_
    refine bodyPost_ret (results_tmp Try.results13 _ _ _) rfl ⟨?_, E⟩
    show Ending.returned (.bool false) = _
    rw [decide_eq_false (by omega)]
  by_cases cA : 0 ≤ t.sa ∧ 0 ≤ t.sb ∧ t.sa + t.sb ≤ 9223372036854775807
  rotate_left
  · skip
    have E : Below w.heap.size w w := Below.refl _ _
    go_enter Try.func13, Try.ntmps13
    refine wp_seq ?_
    refine wl_in ?_
    refine wl_cap fun Q hQ => ?_
    refine st_new (fun b => .pointer (some ⟨b, 0, none⟩)) (some 1) rfl rfl (ex_box rfl rfl) ?_
    intro b1 W1 k1 g1 B
    simp only [Act.put, List.setIfInBounds_toArray, List.set_cons_zero, List.set_cons_succ]
    have ge_b1 := Nat.le_trans E.size g1
    replace E := below_next E B
    clear B
    refine st_to (v := (.bool false)) (some 2) rfl rfl (ex_asg rfl rfl) ?_
    simp only [Act.put, List.setIfInBounds_toArray, List.set_cons_zero, List.set_cons_succ]
    refine st_end ?_
    subst hQ
    refine wp_seq ?_
    refine wp_seq ?_
    refine wl_in ?_
    refine wl_cap fun Q hQ => ?_
    refine st_to (v := (.pointer (some ⟨b1, 0, none⟩))) (some 5) rfl rfl (ex_fa (p := (.pointer (some ⟨b1, 0, none⟩))) rfl rfl (fa26_0 _ _)) ?_
    simp only [Act.put, List.setIfInBounds_toArray, List.set_cons_zero, List.set_cons_succ]
    refine st_to (v := (.int .i64 t.ch)) (some 6) rfl rfl (ex_load (p := (.pointer (some ⟨b1, 0, none⟩))) rfl rfl (ld3 (at_cell k1 hT.c0))) ?_
    simp only [Act.put, List.setIfInBounds_toArray, List.set_cons_zero, List.set_cons_succ]
    refine st_to (v := (.bool false)) (some 7) rfl rfl (ex_bin (u := (.int .i64 t.ch)) (r := (.int .i64 1)) rfl rfl rfl (eg3 _ _ _ _ _ _) (lss3 _ (decide_eq_false c0))) ?_
    simp only [Act.put, List.setIfInBounds_toArray, List.set_cons_zero, List.set_cons_succ]
    refine st_to (v := (.bool false)) (some 8) rfl rfl (ex_mv rfl rfl) ?_
    simp only [Act.put, List.setIfInBounds_toArray, List.set_cons_zero, List.set_cons_succ]
    refine st_to (v := (.pointer (some ⟨b1, 0, none⟩))) (some 9) rfl rfl (ex_fa (p := (.pointer (some ⟨b1, 0, none⟩))) rfl rfl (fa26_0 _ _)) ?_
    simp only [Act.put, List.setIfInBounds_toArray, List.set_cons_zero, List.set_cons_succ]
    refine st_to (v := (.int .i64 t.ch)) (some 10) rfl rfl (ex_load (p := (.pointer (some ⟨b1, 0, none⟩))) rfl rfl (ld3 (at_cell k1 hT.c0))) ?_
    simp only [Act.put, List.setIfInBounds_toArray, List.set_cons_zero, List.set_cons_succ]
    refine st_to (v := (.bool false)) (some 11) rfl rfl (ex_bin (u := (.int .i64 t.ch)) (r := (.int .i64 65535)) rfl rfl rfl (eg3 _ _ _ _ _ _) (gtr3 _ (decide_eq_false c1))) ?_
    simp only [Act.put, List.setIfInBounds_toArray, List.set_cons_zero, List.set_cons_succ]
    refine st_to (v := (.bool false)) (some 12) rfl rfl (ex_pkF rfl rfl rfl) ?_
    simp only [Act.put, List.setIfInBounds_toArray, List.set_cons_zero, List.set_cons_succ]
    refine st_to (v := (.bool false)) (some 13) rfl rfl (ex_mv rfl rfl) ?_
    simp only [Act.put, List.setIfInBounds_toArray, List.set_cons_zero, List.set_cons_succ]
    refine st_to (v := (.pointer (some ⟨b1, 1, none⟩))) (some 14) rfl rfl (ex_fa (p := (.pointer (some ⟨b1, 0, none⟩))) rfl rfl (fa26_1 _ _)) ?_
    simp only [Act.put, List.setIfInBounds_toArray, List.set_cons_zero, List.set_cons_succ]
    refine st_to (v := (.int .i64 t.a)) (some 15) rfl rfl (ex_load (p := (.pointer (some ⟨b1, 1, none⟩))) rfl rfl (ld3 (at_cell k1 hT.c1))) ?_
    simp only [Act.put, List.setIfInBounds_toArray, List.set_cons_zero, List.set_cons_succ]
    refine st_to (v := (.bool false)) (some 16) rfl rfl (ex_bin (u := (.int .i64 t.a)) (r := (.int .i64 0)) rfl rfl rfl (eg3 _ _ _ _ _ _) (lss3 _ (decide_eq_false c2))) ?_
    simp only [Act.put, List.setIfInBounds_toArray, List.set_cons_zero, List.set_cons_succ]
    refine st_to (v := (.bool false)) (some 17) rfl rfl (ex_pkF rfl rfl rfl) ?_
    simp only [Act.put, List.setIfInBounds_toArray, List.set_cons_zero, List.set_cons_succ]
    refine st_to (v := (.bool false)) (some 18) rfl rfl (ex_mv rfl rfl) ?_
    simp only [Act.put, List.setIfInBounds_toArray, List.set_cons_zero, List.set_cons_succ]
    refine st_to (v := (.pointer (some ⟨b1, 2, none⟩))) (some 19) rfl rfl (ex_fa (p := (.pointer (some ⟨b1, 0, none⟩))) rfl rfl (fa26_2 _ _)) ?_
    simp only [Act.put, List.setIfInBounds_toArray, List.set_cons_zero, List.set_cons_succ]
    refine st_to (v := (.int .i64 t.b)) (some 20) rfl rfl (ex_load (p := (.pointer (some ⟨b1, 2, none⟩))) rfl rfl (ld3 (at_cell k1 hT.c2))) ?_
    simp only [Act.put, List.setIfInBounds_toArray, List.set_cons_zero, List.set_cons_succ]
    refine st_to (v := (.bool false)) (some 21) rfl rfl (ex_bin (u := (.int .i64 t.b)) (r := (.int .i64 7)) rfl rfl rfl (eg3 _ _ _ _ _ _) (gtr3 _ (decide_eq_false c3))) ?_
    simp only [Act.put, List.setIfInBounds_toArray, List.set_cons_zero, List.set_cons_succ]
    refine st_to (v := (.bool false)) (some 22) rfl rfl (ex_pkF rfl rfl rfl) ?_
    simp only [Act.put, List.setIfInBounds_toArray, List.set_cons_zero, List.set_cons_succ]
    refine st_to (v := (.bool false)) (some 23) rfl rfl (ex_mv rfl rfl) ?_
    simp only [Act.put, List.setIfInBounds_toArray, List.set_cons_zero, List.set_cons_succ]
    refine st_to (v := (.pointer (some ⟨b1, 1, none⟩))) (some 24) rfl rfl (ex_fa (p := (.pointer (some ⟨b1, 0, none⟩))) rfl rfl (fa26_1 _ _)) ?_
    simp only [Act.put, List.setIfInBounds_toArray, List.set_cons_zero, List.set_cons_succ]
    refine st_to (v := (.int .i64 t.a)) (some 25) rfl rfl (ex_load (p := (.pointer (some ⟨b1, 1, none⟩))) rfl rfl (ld3 (at_cell k1 hT.c1))) ?_
    simp only [Act.put, List.setIfInBounds_toArray, List.set_cons_zero, List.set_cons_succ]
    refine st_to (v := (.pointer (some ⟨b1, 2, none⟩))) (some 26) rfl rfl (ex_fa (p := (.pointer (some ⟨b1, 0, none⟩))) rfl rfl (fa26_2 _ _)) ?_
    simp only [Act.put, List.setIfInBounds_toArray, List.set_cons_zero, List.set_cons_succ]
    refine st_to (v := (.int .i64 t.b)) (some 27) rfl rfl (ex_load (p := (.pointer (some ⟨b1, 2, none⟩))) rfl rfl (ld3 (at_cell k1 hT.c2))) ?_
    simp only [Act.put, List.setIfInBounds_toArray, List.set_cons_zero, List.set_cons_succ]
    refine st_to (v := (.bool false)) (some 28) rfl rfl (ex_bin (u := (.int .i64 t.a)) (r := (.int .i64 t.b)) rfl rfl rfl (eg3 _ _ _ _ _ _) (geq3 _ (decide_eq_false c4))) ?_
    simp only [Act.put, List.setIfInBounds_toArray, List.set_cons_zero, List.set_cons_succ]
    refine st_to (v := (.bool false)) (some 29) rfl rfl (ex_pkF rfl rfl rfl) ?_
    simp only [Act.put, List.setIfInBounds_toArray, List.set_cons_zero, List.set_cons_succ]
    refine st_to (v := (.bool false)) (some 30) rfl rfl (ex_mv rfl rfl) ?_
    simp only [Act.put, List.setIfInBounds_toArray, List.set_cons_zero, List.set_cons_succ]
    refine st_to (v := (.pointer (some ⟨b1, 3, none⟩))) (some 31) rfl rfl (ex_fa (p := (.pointer (some ⟨b1, 0, none⟩))) rfl rfl (fa26_3 _ _)) ?_
    simp only [Act.put, List.setIfInBounds_toArray, List.set_cons_zero, List.set_cons_succ]
    refine st_to (v := (.pointer (some ⟨b1, 35, none⟩))) (some 32) rfl rfl (ex_fa rfl rfl (faR _ 0 _)) ?_
    simp only [Act.put, List.setIfInBounds_toArray, List.set_cons_zero, List.set_cons_succ]
    refine st_to (v := (.int .i64 t.fo)) (some 33) rfl rfl (ex_load (p := (.pointer (some ⟨b1, 35, none⟩))) rfl rfl (ld3 (at_cell k1 hT.c35))) ?_
    simp only [Act.put, List.setIfInBounds_toArray, List.set_cons_zero, List.set_cons_succ]
    refine st_to (v := (.bool false)) (some 34) rfl rfl (ex_bin (u := (.int .i64 t.fo)) (r := (.int .i64 0)) rfl rfl rfl (eg3 _ _ _ _ _ _) (lss3 _ (decide_eq_false c5))) ?_
    simp only [Act.put, List.setIfInBounds_toArray, List.set_cons_zero, List.set_cons_succ]
    refine st_to (v := (.bool false)) (some 35) rfl rfl (ex_pkF rfl rfl rfl) ?_
    simp only [Act.put, List.setIfInBounds_toArray, List.set_cons_zero, List.set_cons_succ]
    refine st_to (v := (.bool false)) (some 36) rfl rfl (ex_mv rfl rfl) ?_
    simp only [Act.put, List.setIfInBounds_toArray, List.set_cons_zero, List.set_cons_succ]
    refine st_to (v := (.pointer (some ⟨b1, 38, none⟩))) (some 37) rfl rfl (ex_fa (p := (.pointer (some ⟨b1, 0, none⟩))) rfl rfl (fa26_6 _ _)) ?_
    simp only [Act.put, List.setIfInBounds_toArray, List.set_cons_zero, List.set_cons_succ]
    refine st_to (v := (.int .i64 t.d)) (some 38) rfl rfl (ex_load (p := (.pointer (some ⟨b1, 38, none⟩))) rfl rfl (ld3 (at_cell k1 hT.c38))) ?_
    simp only [Act.put, List.setIfInBounds_toArray, List.set_cons_zero, List.set_cons_succ]
    refine st_to (v := (.bool false)) (some 39) rfl rfl (ex_bin (u := (.int .i64 t.d)) (r := (.int .i64 1)) rfl rfl rfl (eg3 _ _ _ _ _ _) (lss3 _ (decide_eq_false c6))) ?_
    simp only [Act.put, List.setIfInBounds_toArray, List.set_cons_zero, List.set_cons_succ]
    refine st_to (v := (.bool false)) (some 40) rfl rfl (ex_pkF rfl rfl rfl) ?_
    simp only [Act.put, List.setIfInBounds_toArray, List.set_cons_zero, List.set_cons_succ]
    refine st_to (v := (.bool false)) (some 41) rfl rfl (ex_mv rfl rfl) ?_
    simp only [Act.put, List.setIfInBounds_toArray, List.set_cons_zero, List.set_cons_succ]
    refine st_to (v := (.pointer (some ⟨b1, 38, none⟩))) (some 42) rfl rfl (ex_fa (p := (.pointer (some ⟨b1, 0, none⟩))) rfl rfl (fa26_6 _ _)) ?_
    simp only [Act.put, List.setIfInBounds_toArray, List.set_cons_zero, List.set_cons_succ]
    refine st_to (v := (.int .i64 t.d)) (some 43) rfl rfl (ex_load (p := (.pointer (some ⟨b1, 38, none⟩))) rfl rfl (ld3 (at_cell k1 hT.c38))) ?_
    simp only [Act.put, List.setIfInBounds_toArray, List.set_cons_zero, List.set_cons_succ]
    refine st_to (v := (.bool false)) (some 44) rfl rfl (ex_bin (u := (.int .i64 t.d)) (r := (.int .i64 1000)) rfl rfl rfl (eg3 _ _ _ _ _ _) (gtr3 _ (decide_eq_false c7))) ?_
    simp only [Act.put, List.setIfInBounds_toArray, List.set_cons_zero, List.set_cons_succ]
    refine st_to (v := (.bool false)) (some 45) rfl rfl (ex_pkF rfl rfl rfl) ?_
    simp only [Act.put, List.setIfInBounds_toArray, List.set_cons_zero, List.set_cons_succ]
    refine st_to (v := (.bool false)) (some 46) rfl rfl (ex_mv rfl rfl) ?_
    simp only [Act.put, List.setIfInBounds_toArray, List.set_cons_zero, List.set_cons_succ]
    refine st_to (v := (.pointer (some ⟨b1, 39, none⟩))) (some 47) rfl rfl (ex_fa (p := (.pointer (some ⟨b1, 0, none⟩))) rfl rfl (fa26_7 _ _)) ?_
    simp only [Act.put, List.setIfInBounds_toArray, List.set_cons_zero, List.set_cons_succ]
    refine st_to (v := (.int .i64 t.fee)) (some 48) rfl rfl (ex_load (p := (.pointer (some ⟨b1, 39, none⟩))) rfl rfl (ld3 (at_cell k1 hT.c39))) ?_
    simp only [Act.put, List.setIfInBounds_toArray, List.set_cons_zero, List.set_cons_succ]
    refine st_to (v := (.bool false)) (some 49) rfl rfl (ex_bin (u := (.int .i64 t.fee)) (r := (.int .i64 0)) rfl rfl rfl (eg3 _ _ _ _ _ _) (lss3 _ (decide_eq_false c8))) ?_
    simp only [Act.put, List.setIfInBounds_toArray, List.set_cons_zero, List.set_cons_succ]
    refine st_to (v := (.bool false)) (some 50) rfl rfl (ex_pkF rfl rfl rfl) ?_
    simp only [Act.put, List.setIfInBounds_toArray, List.set_cons_zero, List.set_cons_succ]
    refine st_to (v := (.bool false)) (some 51) rfl rfl (ex_mv rfl rfl) ?_
    simp only [Act.put, List.setIfInBounds_toArray, List.set_cons_zero, List.set_cons_succ]
    refine st_to (v := (.pointer (some ⟨b1, 40, none⟩))) (some 52) rfl rfl (ex_fa (p := (.pointer (some ⟨b1, 0, none⟩))) rfl rfl (fa26_8 _ _)) ?_
    simp only [Act.put, List.setIfInBounds_toArray, List.set_cons_zero, List.set_cons_succ]
    refine st_to (v := (.int .i64 t.res)) (some 53) rfl rfl (ex_load (p := (.pointer (some ⟨b1, 40, none⟩))) rfl rfl (ld3 (at_cell k1 hT.c40))) ?_
    simp only [Act.put, List.setIfInBounds_toArray, List.set_cons_zero, List.set_cons_succ]
    refine st_to (v := (.bool false)) (some 54) rfl rfl (ex_bin (u := (.int .i64 t.res)) (r := (.int .i64 0)) rfl rfl rfl (eg3 _ _ _ _ _ _) (lss3 _ (decide_eq_false c9))) ?_
    simp only [Act.put, List.setIfInBounds_toArray, List.set_cons_zero, List.set_cons_succ]
    refine st_to (v := (.bool false)) (some 55) rfl rfl (ex_pkF rfl rfl rfl) ?_
    simp only [Act.put, List.setIfInBounds_toArray, List.set_cons_zero, List.set_cons_succ]
    refine st_to (v := (.bool false)) (some 56) rfl rfl (ex_mv rfl rfl) ?_
    simp only [Act.put, List.setIfInBounds_toArray, List.set_cons_zero, List.set_cons_succ]
    refine st_to (v := (.pointer (some ⟨b1, 42, none⟩))) (some 57) rfl rfl (ex_fa (p := (.pointer (some ⟨b1, 0, none⟩))) rfl rfl (fa26_10 _ _)) ?_
    simp only [Act.put, List.setIfInBounds_toArray, List.set_cons_zero, List.set_cons_succ]
    refine st_to (v := (.int .i64 t.fl)) (some 58) rfl rfl (ex_load (p := (.pointer (some ⟨b1, 42, none⟩))) rfl rfl (ld3 (at_cell k1 hT.c42))) ?_
    simp only [Act.put, List.setIfInBounds_toArray, List.set_cons_zero, List.set_cons_succ]
    refine st_to (v := (.bool false)) (some 59) rfl rfl (ex_bin (u := (.int .i64 t.fl)) (r := (.int .i64 0)) rfl rfl rfl (eg3 _ _ _ _ _ _) (lss3 _ (decide_eq_false c10))) ?_
    simp only [Act.put, List.setIfInBounds_toArray, List.set_cons_zero, List.set_cons_succ]
    refine st_to (v := (.bool false)) (some 60) rfl rfl (ex_pkF rfl rfl rfl) ?_
    simp only [Act.put, List.setIfInBounds_toArray, List.set_cons_zero, List.set_cons_succ]
    refine st_to (v := (.bool false)) (some 61) rfl rfl (ex_mv rfl rfl) ?_
    simp only [Act.put, List.setIfInBounds_toArray, List.set_cons_zero, List.set_cons_succ]
    refine st_to (v := (.pointer (some ⟨b1, 41, none⟩))) (some 62) rfl rfl (ex_fa (p := (.pointer (some ⟨b1, 0, none⟩))) rfl rfl (fa26_9 _ _)) ?_
    simp only [Act.put, List.setIfInBounds_toArray, List.set_cons_zero, List.set_cons_succ]
    refine st_to (v := (.int .i64 t.sl)) (some 63) rfl rfl (ex_load (p := (.pointer (some ⟨b1, 41, none⟩))) rfl rfl (ld3 (at_cell k1 hT.c41))) ?_
    simp only [Act.put, List.setIfInBounds_toArray, List.set_cons_zero, List.set_cons_succ]
    refine st_to (v := (.bool false)) (some 64) rfl rfl (ex_bin (u := (.int .i64 t.sl)) (r := (.int .i64 1)) rfl rfl rfl (eg3 _ _ _ _ _ _) (lss3 _ (decide_eq_false c11))) ?_
    simp only [Act.put, List.setIfInBounds_toArray, List.set_cons_zero, List.set_cons_succ]
    refine st_to (v := (.bool false)) (some 65) rfl rfl (ex_pkF rfl rfl rfl) ?_
    simp only [Act.put, List.setIfInBounds_toArray, List.set_cons_zero, List.set_cons_succ]
    refine st_to (v := (.bool false)) (some 66) rfl rfl (ex_mv rfl rfl) ?_
    simp only [Act.put, List.setIfInBounds_toArray, List.set_cons_zero, List.set_cons_succ]
    refine st_to (v := (.pointer (some ⟨b1, 41, none⟩))) (some 67) rfl rfl (ex_fa (p := (.pointer (some ⟨b1, 0, none⟩))) rfl rfl (fa26_9 _ _)) ?_
    simp only [Act.put, List.setIfInBounds_toArray, List.set_cons_zero, List.set_cons_succ]
    refine st_to (v := (.int .i64 t.sl)) (some 68) rfl rfl (ex_load (p := (.pointer (some ⟨b1, 41, none⟩))) rfl rfl (ld3 (at_cell k1 hT.c41))) ?_
    simp only [Act.put, List.setIfInBounds_toArray, List.set_cons_zero, List.set_cons_succ]
    refine st_to (v := (.bool false)) (some 69) rfl rfl (ex_bin (u := (.int .i64 t.sl)) (r := (.int .i64 16)) rfl rfl rfl (eg3 _ _ _ _ _ _) (gtr3 _ (decide_eq_false c12))) ?_
    simp only [Act.put, List.setIfInBounds_toArray, List.set_cons_zero, List.set_cons_succ]
    refine st_to (v := (.bool false)) (some 70) rfl rfl (ex_pkF rfl rfl rfl) ?_
    simp only [Act.put, List.setIfInBounds_toArray, List.set_cons_zero, List.set_cons_succ]
    refine st_end ?_
    subst hQ
    refine wp_cond_false rfl ?_
    refine wp_skip ?_
    refine wp_seq ?_
    refine wl_in ?_
    refine wl_cap fun Q hQ => ?_
    refine st_to (v := (.pointer (some ⟨b1, 36, none⟩))) (some 72) rfl rfl (ex_fa (p := (.pointer (some ⟨b1, 0, none⟩))) rfl rfl (fa26_4 _ _)) ?_
    simp only [Act.put, List.setIfInBounds_toArray, List.set_cons_zero, List.set_cons_succ]
    refine st_to (v := (.int .i64 t.sa)) (some 73) rfl rfl (ex_load (p := (.pointer (some ⟨b1, 36, none⟩))) rfl rfl (ld3 (at_cell k1 hT.c36))) ?_
    simp only [Act.put, List.setIfInBounds_toArray, List.set_cons_zero, List.set_cons_succ]
    refine st_to (v := (.pointer (some ⟨b1, 37, none⟩))) (some 74) rfl rfl (ex_fa (p := (.pointer (some ⟨b1, 0, none⟩))) rfl rfl (fa26_5 _ _)) ?_
    simp only [Act.put, List.setIfInBounds_toArray, List.set_cons_zero, List.set_cons_succ]
    refine st_to (v := (.int .i64 t.sb)) (some 75) rfl rfl (ex_load (p := (.pointer (some ⟨b1, 37, none⟩))) rfl rfl (ld3 (at_cell k1 hT.c37))) ?_
    simp only [Act.put, List.setIfInBounds_toArray, List.set_cons_zero, List.set_cons_succ]
    refine st_call (some 76) rfl rfl (radd_no W1 hb.sa hb.sb cA) (ex_call (f := 36) (vs := [(.int .i64 t.sa), (.int .i64 t.sb)]) rfl (cf36 _) rfl) ?_
    rintro e W2 ⟨q, hq, rfl, B⟩
    refine ⟨_, rfl, ?_⟩
    simp only [Act.put, List.setIfInBounds_toArray, List.set_cons_zero, List.set_cons_succ]
    replace E := below_next E B
    replace k1 := keep B k1
    refine st_to (v := (.tuple #[(.int .i64 0), (.int .i64 q)])) (some 71) rfl rfl (ex_mv rfl rfl) ?_
    simp only [Act.put, List.setIfInBounds_toArray, List.set_cons_zero, List.set_cons_succ]
    refine st_to (v := (.int .i64 0)) (some 77) rfl rfl (ex_ext rfl rfl rfl) ?_
    simp only [Act.put, List.setIfInBounds_toArray, List.set_cons_zero, List.set_cons_succ]
    refine st_to (v := (.int .i64 q)) (some 78) rfl rfl (ex_ext rfl rfl rfl) ?_
    simp only [Act.put, List.setIfInBounds_toArray, List.set_cons_zero, List.set_cons_succ]
    refine st_to (v := (.int .i64 0)) (some 3) rfl rfl (ex_asg rfl rfl) ?_
    simp only [Act.put, List.setIfInBounds_toArray, List.set_cons_zero, List.set_cons_succ]
    refine st_to (v := (.int .i64 q)) (some 4) rfl rfl (ex_asg rfl rfl) ?_
    simp only [Act.put, List.setIfInBounds_toArray, List.set_cons_zero, List.set_cons_succ]
    refine st_end ?_
    subst hQ
    refine wp_seq ?_
    refine wl_in ?_
    refine wl_cap fun Q hQ => ?_
    refine st_to (v := (.int .i64 q)) (some 79) rfl rfl (ex_mv rfl rfl) ?_
    simp only [Act.put, List.setIfInBounds_toArray, List.set_cons_zero, List.set_cons_succ]
    refine st_to (v := (.bool false)) (some 80) rfl rfl (ex_bin (u := (.int .i64 q)) (r := (.int .i64 0)) rfl rfl rfl (eg35 _ _ _ _ _ _) (eql35 _ (decide_eq_false hq))) ?_
    simp only [Act.put, List.setIfInBounds_toArray, List.set_cons_zero, List.set_cons_succ]
    refine st_to (v := (.bool false)) (some 2) rfl rfl (ex_asg rfl rfl) ?_
    simp only [Act.put, List.setIfInBounds_toArray, List.set_cons_zero, List.set_cons_succ]
    refine st_end ?_
    subst hQ
    refine wp_ret ?_
    refine bodyPost_ret (results_tmp Try.results13 _ _ _) rfl ⟨?_, E⟩
    show Ending.returned (.bool false) = _
    rw [decide_eq_false (by omega)]
  have E : Below w.heap.size w w := Below.refl _ _
  go_enter Try.func13, Try.ntmps13
  refine wp_seq ?_
  refine wl_in ?_
  refine wl_cap fun Q hQ => ?_
  refine st_new (fun b => .pointer (some ⟨b, 0, none⟩)) (some 1) rfl rfl (ex_box rfl rfl) ?_
  intro b1 W1 k1 g1 B
  simp only [Act.put, List.setIfInBounds_toArray, List.set_cons_zero, List.set_cons_succ]
  have ge_b1 := Nat.le_trans E.size g1
  replace E := below_next E B
  clear B
  refine st_to (v := (.bool false)) (some 2) rfl rfl (ex_asg rfl rfl) ?_
  simp only [Act.put, List.setIfInBounds_toArray, List.set_cons_zero, List.set_cons_succ]
  refine st_end ?_
  subst hQ
  refine wp_seq ?_
  refine wp_seq ?_
  refine wl_in ?_
  refine wl_cap fun Q hQ => ?_
  refine st_to (v := (.pointer (some ⟨b1, 0, none⟩))) (some 5) rfl rfl (ex_fa (p := (.pointer (some ⟨b1, 0, none⟩))) rfl rfl (fa26_0 _ _)) ?_
  simp only [Act.put, List.setIfInBounds_toArray, List.set_cons_zero, List.set_cons_succ]
  refine st_to (v := (.int .i64 t.ch)) (some 6) rfl rfl (ex_load (p := (.pointer (some ⟨b1, 0, none⟩))) rfl rfl (ld3 (at_cell k1 hT.c0))) ?_
  simp only [Act.put, List.setIfInBounds_toArray, List.set_cons_zero, List.set_cons_succ]
  refine st_to (v := (.bool false)) (some 7) rfl rfl (ex_bin (u := (.int .i64 t.ch)) (r := (.int .i64 1)) rfl rfl rfl (eg3 _ _ _ _ _ _) (lss3 _ (decide_eq_false c0))) ?_
  simp only [Act.put, List.setIfInBounds_toArray, List.set_cons_zero, List.set_cons_succ]
  refine st_to (v := (.bool false)) (some 8) rfl rfl (ex_mv rfl rfl) ?_
  simp only [Act.put, List.setIfInBounds_toArray, List.set_cons_zero, List.set_cons_succ]
  refine st_to (v := (.pointer (some ⟨b1, 0, none⟩))) (some 9) rfl rfl (ex_fa (p := (.pointer (some ⟨b1, 0, none⟩))) rfl rfl (fa26_0 _ _)) ?_
  simp only [Act.put, List.setIfInBounds_toArray, List.set_cons_zero, List.set_cons_succ]
  refine st_to (v := (.int .i64 t.ch)) (some 10) rfl rfl (ex_load (p := (.pointer (some ⟨b1, 0, none⟩))) rfl rfl (ld3 (at_cell k1 hT.c0))) ?_
  simp only [Act.put, List.setIfInBounds_toArray, List.set_cons_zero, List.set_cons_succ]
  refine st_to (v := (.bool false)) (some 11) rfl rfl (ex_bin (u := (.int .i64 t.ch)) (r := (.int .i64 65535)) rfl rfl rfl (eg3 _ _ _ _ _ _) (gtr3 _ (decide_eq_false c1))) ?_
  simp only [Act.put, List.setIfInBounds_toArray, List.set_cons_zero, List.set_cons_succ]
  refine st_to (v := (.bool false)) (some 12) rfl rfl (ex_pkF rfl rfl rfl) ?_
  simp only [Act.put, List.setIfInBounds_toArray, List.set_cons_zero, List.set_cons_succ]
  refine st_to (v := (.bool false)) (some 13) rfl rfl (ex_mv rfl rfl) ?_
  simp only [Act.put, List.setIfInBounds_toArray, List.set_cons_zero, List.set_cons_succ]
  refine st_to (v := (.pointer (some ⟨b1, 1, none⟩))) (some 14) rfl rfl (ex_fa (p := (.pointer (some ⟨b1, 0, none⟩))) rfl rfl (fa26_1 _ _)) ?_
  simp only [Act.put, List.setIfInBounds_toArray, List.set_cons_zero, List.set_cons_succ]
  refine st_to (v := (.int .i64 t.a)) (some 15) rfl rfl (ex_load (p := (.pointer (some ⟨b1, 1, none⟩))) rfl rfl (ld3 (at_cell k1 hT.c1))) ?_
  simp only [Act.put, List.setIfInBounds_toArray, List.set_cons_zero, List.set_cons_succ]
  refine st_to (v := (.bool false)) (some 16) rfl rfl (ex_bin (u := (.int .i64 t.a)) (r := (.int .i64 0)) rfl rfl rfl (eg3 _ _ _ _ _ _) (lss3 _ (decide_eq_false c2))) ?_
  simp only [Act.put, List.setIfInBounds_toArray, List.set_cons_zero, List.set_cons_succ]
  refine st_to (v := (.bool false)) (some 17) rfl rfl (ex_pkF rfl rfl rfl) ?_
  simp only [Act.put, List.setIfInBounds_toArray, List.set_cons_zero, List.set_cons_succ]
  refine st_to (v := (.bool false)) (some 18) rfl rfl (ex_mv rfl rfl) ?_
  simp only [Act.put, List.setIfInBounds_toArray, List.set_cons_zero, List.set_cons_succ]
  refine st_to (v := (.pointer (some ⟨b1, 2, none⟩))) (some 19) rfl rfl (ex_fa (p := (.pointer (some ⟨b1, 0, none⟩))) rfl rfl (fa26_2 _ _)) ?_
  simp only [Act.put, List.setIfInBounds_toArray, List.set_cons_zero, List.set_cons_succ]
  refine st_to (v := (.int .i64 t.b)) (some 20) rfl rfl (ex_load (p := (.pointer (some ⟨b1, 2, none⟩))) rfl rfl (ld3 (at_cell k1 hT.c2))) ?_
  simp only [Act.put, List.setIfInBounds_toArray, List.set_cons_zero, List.set_cons_succ]
  refine st_to (v := (.bool false)) (some 21) rfl rfl (ex_bin (u := (.int .i64 t.b)) (r := (.int .i64 7)) rfl rfl rfl (eg3 _ _ _ _ _ _) (gtr3 _ (decide_eq_false c3))) ?_
  simp only [Act.put, List.setIfInBounds_toArray, List.set_cons_zero, List.set_cons_succ]
  refine st_to (v := (.bool false)) (some 22) rfl rfl (ex_pkF rfl rfl rfl) ?_
  simp only [Act.put, List.setIfInBounds_toArray, List.set_cons_zero, List.set_cons_succ]
  refine st_to (v := (.bool false)) (some 23) rfl rfl (ex_mv rfl rfl) ?_
  simp only [Act.put, List.setIfInBounds_toArray, List.set_cons_zero, List.set_cons_succ]
  refine st_to (v := (.pointer (some ⟨b1, 1, none⟩))) (some 24) rfl rfl (ex_fa (p := (.pointer (some ⟨b1, 0, none⟩))) rfl rfl (fa26_1 _ _)) ?_
  simp only [Act.put, List.setIfInBounds_toArray, List.set_cons_zero, List.set_cons_succ]
  refine st_to (v := (.int .i64 t.a)) (some 25) rfl rfl (ex_load (p := (.pointer (some ⟨b1, 1, none⟩))) rfl rfl (ld3 (at_cell k1 hT.c1))) ?_
  simp only [Act.put, List.setIfInBounds_toArray, List.set_cons_zero, List.set_cons_succ]
  refine st_to (v := (.pointer (some ⟨b1, 2, none⟩))) (some 26) rfl rfl (ex_fa (p := (.pointer (some ⟨b1, 0, none⟩))) rfl rfl (fa26_2 _ _)) ?_
  simp only [Act.put, List.setIfInBounds_toArray, List.set_cons_zero, List.set_cons_succ]
  refine st_to (v := (.int .i64 t.b)) (some 27) rfl rfl (ex_load (p := (.pointer (some ⟨b1, 2, none⟩))) rfl rfl (ld3 (at_cell k1 hT.c2))) ?_
  simp only [Act.put, List.setIfInBounds_toArray, List.set_cons_zero, List.set_cons_succ]
  refine st_to (v := (.bool false)) (some 28) rfl rfl (ex_bin (u := (.int .i64 t.a)) (r := (.int .i64 t.b)) rfl rfl rfl (eg3 _ _ _ _ _ _) (geq3 _ (decide_eq_false c4))) ?_
  simp only [Act.put, List.setIfInBounds_toArray, List.set_cons_zero, List.set_cons_succ]
  refine st_to (v := (.bool false)) (some 29) rfl rfl (ex_pkF rfl rfl rfl) ?_
  simp only [Act.put, List.setIfInBounds_toArray, List.set_cons_zero, List.set_cons_succ]
  refine st_to (v := (.bool false)) (some 30) rfl rfl (ex_mv rfl rfl) ?_
  simp only [Act.put, List.setIfInBounds_toArray, List.set_cons_zero, List.set_cons_succ]
  refine st_to (v := (.pointer (some ⟨b1, 3, none⟩))) (some 31) rfl rfl (ex_fa (p := (.pointer (some ⟨b1, 0, none⟩))) rfl rfl (fa26_3 _ _)) ?_
  simp only [Act.put, List.setIfInBounds_toArray, List.set_cons_zero, List.set_cons_succ]
  refine st_to (v := (.pointer (some ⟨b1, 35, none⟩))) (some 32) rfl rfl (ex_fa rfl rfl (faR _ 0 _)) ?_
  simp only [Act.put, List.setIfInBounds_toArray, List.set_cons_zero, List.set_cons_succ]
  refine st_to (v := (.int .i64 t.fo)) (some 33) rfl rfl (ex_load (p := (.pointer (some ⟨b1, 35, none⟩))) rfl rfl (ld3 (at_cell k1 hT.c35))) ?_
  simp only [Act.put, List.setIfInBounds_toArray, List.set_cons_zero, List.set_cons_succ]
  refine st_to (v := (.bool false)) (some 34) rfl rfl (ex_bin (u := (.int .i64 t.fo)) (r := (.int .i64 0)) rfl rfl rfl (eg3 _ _ _ _ _ _) (lss3 _ (decide_eq_false c5))) ?_
  simp only [Act.put, List.setIfInBounds_toArray, List.set_cons_zero, List.set_cons_succ]
  refine st_to (v := (.bool false)) (some 35) rfl rfl (ex_pkF rfl rfl rfl) ?_
  simp only [Act.put, List.setIfInBounds_toArray, List.set_cons_zero, List.set_cons_succ]
  refine st_to (v := (.bool false)) (some 36) rfl rfl (ex_mv rfl rfl) ?_
  simp only [Act.put, List.setIfInBounds_toArray, List.set_cons_zero, List.set_cons_succ]
  refine st_to (v := (.pointer (some ⟨b1, 38, none⟩))) (some 37) rfl rfl (ex_fa (p := (.pointer (some ⟨b1, 0, none⟩))) rfl rfl (fa26_6 _ _)) ?_
  simp only [Act.put, List.setIfInBounds_toArray, List.set_cons_zero, List.set_cons_succ]
  refine st_to (v := (.int .i64 t.d)) (some 38) rfl rfl (ex_load (p := (.pointer (some ⟨b1, 38, none⟩))) rfl rfl (ld3 (at_cell k1 hT.c38))) ?_
  simp only [Act.put, List.setIfInBounds_toArray, List.set_cons_zero, List.set_cons_succ]
  refine st_to (v := (.bool false)) (some 39) rfl rfl (ex_bin (u := (.int .i64 t.d)) (r := (.int .i64 1)) rfl rfl rfl (eg3 _ _ _ _ _ _) (lss3 _ (decide_eq_false c6))) ?_
  simp only [Act.put, List.setIfInBounds_toArray, List.set_cons_zero, List.set_cons_succ]
  refine st_to (v := (.bool false)) (some 40) rfl rfl (ex_pkF rfl rfl rfl) ?_
  simp only [Act.put, List.setIfInBounds_toArray, List.set_cons_zero, List.set_cons_succ]
  refine st_to (v := (.bool false)) (some 41) rfl rfl (ex_mv rfl rfl) ?_
  simp only [Act.put, List.setIfInBounds_toArray, List.set_cons_zero, List.set_cons_succ]
  refine st_to (v := (.pointer (some ⟨b1, 38, none⟩))) (some 42) rfl rfl (ex_fa (p := (.pointer (some ⟨b1, 0, none⟩))) rfl rfl (fa26_6 _ _)) ?_
  simp only [Act.put, List.setIfInBounds_toArray, List.set_cons_zero, List.set_cons_succ]
  refine st_to (v := (.int .i64 t.d)) (some 43) rfl rfl (ex_load (p := (.pointer (some ⟨b1, 38, none⟩))) rfl rfl (ld3 (at_cell k1 hT.c38))) ?_
  simp only [Act.put, List.setIfInBounds_toArray, List.set_cons_zero, List.set_cons_succ]
  refine st_to (v := (.bool false)) (some 44) rfl rfl (ex_bin (u := (.int .i64 t.d)) (r := (.int .i64 1000)) rfl rfl rfl (eg3 _ _ _ _ _ _) (gtr3 _ (decide_eq_false c7))) ?_
  simp only [Act.put, List.setIfInBounds_toArray, List.set_cons_zero, List.set_cons_succ]
  refine st_to (v := (.bool false)) (some 45) rfl rfl (ex_pkF rfl rfl rfl) ?_
  simp only [Act.put, List.setIfInBounds_toArray, List.set_cons_zero, List.set_cons_succ]
  refine st_to (v := (.bool false)) (some 46) rfl rfl (ex_mv rfl rfl) ?_
  simp only [Act.put, List.setIfInBounds_toArray, List.set_cons_zero, List.set_cons_succ]
  refine st_to (v := (.pointer (some ⟨b1, 39, none⟩))) (some 47) rfl rfl (ex_fa (p := (.pointer (some ⟨b1, 0, none⟩))) rfl rfl (fa26_7 _ _)) ?_
  simp only [Act.put, List.setIfInBounds_toArray, List.set_cons_zero, List.set_cons_succ]
  refine st_to (v := (.int .i64 t.fee)) (some 48) rfl rfl (ex_load (p := (.pointer (some ⟨b1, 39, none⟩))) rfl rfl (ld3 (at_cell k1 hT.c39))) ?_
  simp only [Act.put, List.setIfInBounds_toArray, List.set_cons_zero, List.set_cons_succ]
  refine st_to (v := (.bool false)) (some 49) rfl rfl (ex_bin (u := (.int .i64 t.fee)) (r := (.int .i64 0)) rfl rfl rfl (eg3 _ _ _ _ _ _) (lss3 _ (decide_eq_false c8))) ?_
  simp only [Act.put, List.setIfInBounds_toArray, List.set_cons_zero, List.set_cons_succ]
  refine st_to (v := (.bool false)) (some 50) rfl rfl (ex_pkF rfl rfl rfl) ?_
  simp only [Act.put, List.setIfInBounds_toArray, List.set_cons_zero, List.set_cons_succ]
  refine st_to (v := (.bool false)) (some 51) rfl rfl (ex_mv rfl rfl) ?_
  simp only [Act.put, List.setIfInBounds_toArray, List.set_cons_zero, List.set_cons_succ]
  refine st_to (v := (.pointer (some ⟨b1, 40, none⟩))) (some 52) rfl rfl (ex_fa (p := (.pointer (some ⟨b1, 0, none⟩))) rfl rfl (fa26_8 _ _)) ?_
  simp only [Act.put, List.setIfInBounds_toArray, List.set_cons_zero, List.set_cons_succ]
  refine st_to (v := (.int .i64 t.res)) (some 53) rfl rfl (ex_load (p := (.pointer (some ⟨b1, 40, none⟩))) rfl rfl (ld3 (at_cell k1 hT.c40))) ?_
  simp only [Act.put, List.setIfInBounds_toArray, List.set_cons_zero, List.set_cons_succ]
  refine st_to (v := (.bool false)) (some 54) rfl rfl (ex_bin (u := (.int .i64 t.res)) (r := (.int .i64 0)) rfl rfl rfl (eg3 _ _ _ _ _ _) (lss3 _ (decide_eq_false c9))) ?_
  simp only [Act.put, List.setIfInBounds_toArray, List.set_cons_zero, List.set_cons_succ]
  refine st_to (v := (.bool false)) (some 55) rfl rfl (ex_pkF rfl rfl rfl) ?_
  simp only [Act.put, List.setIfInBounds_toArray, List.set_cons_zero, List.set_cons_succ]
  refine st_to (v := (.bool false)) (some 56) rfl rfl (ex_mv rfl rfl) ?_
  simp only [Act.put, List.setIfInBounds_toArray, List.set_cons_zero, List.set_cons_succ]
  refine st_to (v := (.pointer (some ⟨b1, 42, none⟩))) (some 57) rfl rfl (ex_fa (p := (.pointer (some ⟨b1, 0, none⟩))) rfl rfl (fa26_10 _ _)) ?_
  simp only [Act.put, List.setIfInBounds_toArray, List.set_cons_zero, List.set_cons_succ]
  refine st_to (v := (.int .i64 t.fl)) (some 58) rfl rfl (ex_load (p := (.pointer (some ⟨b1, 42, none⟩))) rfl rfl (ld3 (at_cell k1 hT.c42))) ?_
  simp only [Act.put, List.setIfInBounds_toArray, List.set_cons_zero, List.set_cons_succ]
  refine st_to (v := (.bool false)) (some 59) rfl rfl (ex_bin (u := (.int .i64 t.fl)) (r := (.int .i64 0)) rfl rfl rfl (eg3 _ _ _ _ _ _) (lss3 _ (decide_eq_false c10))) ?_
  simp only [Act.put, List.setIfInBounds_toArray, List.set_cons_zero, List.set_cons_succ]
  refine st_to (v := (.bool false)) (some 60) rfl rfl (ex_pkF rfl rfl rfl) ?_
  simp only [Act.put, List.setIfInBounds_toArray, List.set_cons_zero, List.set_cons_succ]
  refine st_to (v := (.bool false)) (some 61) rfl rfl (ex_mv rfl rfl) ?_
  simp only [Act.put, List.setIfInBounds_toArray, List.set_cons_zero, List.set_cons_succ]
  refine st_to (v := (.pointer (some ⟨b1, 41, none⟩))) (some 62) rfl rfl (ex_fa (p := (.pointer (some ⟨b1, 0, none⟩))) rfl rfl (fa26_9 _ _)) ?_
  simp only [Act.put, List.setIfInBounds_toArray, List.set_cons_zero, List.set_cons_succ]
  refine st_to (v := (.int .i64 t.sl)) (some 63) rfl rfl (ex_load (p := (.pointer (some ⟨b1, 41, none⟩))) rfl rfl (ld3 (at_cell k1 hT.c41))) ?_
  simp only [Act.put, List.setIfInBounds_toArray, List.set_cons_zero, List.set_cons_succ]
  refine st_to (v := (.bool false)) (some 64) rfl rfl (ex_bin (u := (.int .i64 t.sl)) (r := (.int .i64 1)) rfl rfl rfl (eg3 _ _ _ _ _ _) (lss3 _ (decide_eq_false c11))) ?_
  simp only [Act.put, List.setIfInBounds_toArray, List.set_cons_zero, List.set_cons_succ]
  refine st_to (v := (.bool false)) (some 65) rfl rfl (ex_pkF rfl rfl rfl) ?_
  simp only [Act.put, List.setIfInBounds_toArray, List.set_cons_zero, List.set_cons_succ]
  refine st_to (v := (.bool false)) (some 66) rfl rfl (ex_mv rfl rfl) ?_
  simp only [Act.put, List.setIfInBounds_toArray, List.set_cons_zero, List.set_cons_succ]
  refine st_to (v := (.pointer (some ⟨b1, 41, none⟩))) (some 67) rfl rfl (ex_fa (p := (.pointer (some ⟨b1, 0, none⟩))) rfl rfl (fa26_9 _ _)) ?_
  simp only [Act.put, List.setIfInBounds_toArray, List.set_cons_zero, List.set_cons_succ]
  refine st_to (v := (.int .i64 t.sl)) (some 68) rfl rfl (ex_load (p := (.pointer (some ⟨b1, 41, none⟩))) rfl rfl (ld3 (at_cell k1 hT.c41))) ?_
  simp only [Act.put, List.setIfInBounds_toArray, List.set_cons_zero, List.set_cons_succ]
  refine st_to (v := (.bool false)) (some 69) rfl rfl (ex_bin (u := (.int .i64 t.sl)) (r := (.int .i64 16)) rfl rfl rfl (eg3 _ _ _ _ _ _) (gtr3 _ (decide_eq_false c12))) ?_
  simp only [Act.put, List.setIfInBounds_toArray, List.set_cons_zero, List.set_cons_succ]
  refine st_to (v := (.bool false)) (some 70) rfl rfl (ex_pkF rfl rfl rfl) ?_
  simp only [Act.put, List.setIfInBounds_toArray, List.set_cons_zero, List.set_cons_succ]
  refine st_end ?_
  subst hQ
  refine wp_cond_false rfl ?_
  refine wp_skip ?_
  refine wp_seq ?_
  refine wl_in ?_
  refine wl_cap fun Q hQ => ?_
  refine st_to (v := (.pointer (some ⟨b1, 36, none⟩))) (some 72) rfl rfl (ex_fa (p := (.pointer (some ⟨b1, 0, none⟩))) rfl rfl (fa26_4 _ _)) ?_
  simp only [Act.put, List.setIfInBounds_toArray, List.set_cons_zero, List.set_cons_succ]
  refine st_to (v := (.int .i64 t.sa)) (some 73) rfl rfl (ex_load (p := (.pointer (some ⟨b1, 36, none⟩))) rfl rfl (ld3 (at_cell k1 hT.c36))) ?_
  simp only [Act.put, List.setIfInBounds_toArray, List.set_cons_zero, List.set_cons_succ]
  refine st_to (v := (.pointer (some ⟨b1, 37, none⟩))) (some 74) rfl rfl (ex_fa (p := (.pointer (some ⟨b1, 0, none⟩))) rfl rfl (fa26_5 _ _)) ?_
  simp only [Act.put, List.setIfInBounds_toArray, List.set_cons_zero, List.set_cons_succ]
  refine st_to (v := (.int .i64 t.sb)) (some 75) rfl rfl (ex_load (p := (.pointer (some ⟨b1, 37, none⟩))) rfl rfl (ld3 (at_cell k1 hT.c37))) ?_
  simp only [Act.put, List.setIfInBounds_toArray, List.set_cons_zero, List.set_cons_succ]
  refine st_call (some 76) rfl rfl (radd_ok W1 cA) (ex_call (f := 36) (vs := [(.int .i64 t.sa), (.int .i64 t.sb)]) rfl (cf36 _) rfl) ?_
  rintro e W2 ⟨rfl, B⟩
  refine ⟨_, rfl, ?_⟩
  simp only [Act.put, List.setIfInBounds_toArray, List.set_cons_zero, List.set_cons_succ]
  replace E := below_next E B
  replace k1 := keep B k1
  refine st_to (v := (.tuple #[(.int .i64 (t.sa + t.sb)), (.int .i64 0)])) (some 71) rfl rfl (ex_mv rfl rfl) ?_
  simp only [Act.put, List.setIfInBounds_toArray, List.set_cons_zero, List.set_cons_succ]
  refine st_to (v := (.int .i64 (t.sa + t.sb))) (some 77) rfl rfl (ex_ext rfl rfl rfl) ?_
  simp only [Act.put, List.setIfInBounds_toArray, List.set_cons_zero, List.set_cons_succ]
  refine st_to (v := (.int .i64 0)) (some 78) rfl rfl (ex_ext rfl rfl rfl) ?_
  simp only [Act.put, List.setIfInBounds_toArray, List.set_cons_zero, List.set_cons_succ]
  refine st_to (v := (.int .i64 (t.sa + t.sb))) (some 3) rfl rfl (ex_asg rfl rfl) ?_
  simp only [Act.put, List.setIfInBounds_toArray, List.set_cons_zero, List.set_cons_succ]
  refine st_to (v := (.int .i64 0)) (some 4) rfl rfl (ex_asg rfl rfl) ?_
  simp only [Act.put, List.setIfInBounds_toArray, List.set_cons_zero, List.set_cons_succ]
  refine st_end ?_
  subst hQ
  refine wp_seq ?_
  refine wl_in ?_
  refine wl_cap fun Q hQ => ?_
  refine st_to (v := (.int .i64 0)) (some 79) rfl rfl (ex_mv rfl rfl) ?_
  simp only [Act.put, List.setIfInBounds_toArray, List.set_cons_zero, List.set_cons_succ]
  refine st_to (v := (.bool true)) (some 80) rfl rfl (ex_bin (u := (.int .i64 0)) (r := (.int .i64 0)) rfl rfl rfl (eg35 _ _ _ _ _ _) (eql35 _ (by decide))) ?_
  simp only [Act.put, List.setIfInBounds_toArray, List.set_cons_zero, List.set_cons_succ]
  refine st_to (v := (.bool true)) (some 2) rfl rfl (ex_asg rfl rfl) ?_
  simp only [Act.put, List.setIfInBounds_toArray, List.set_cons_zero, List.set_cons_succ]
  refine st_end ?_
  subst hQ
  refine wp_ret ?_
  refine bodyPost_ret (results_tmp Try.results13 _ _ _) rfl ⟨?_, E⟩
  show Ending.returned (.bool true) = _
  rw [decide_eq_true (by omega)]
theorem rless_any (x f : Int) (w : World) (hx : 0 ≤ x ∧ x ≤ 9223372036854775807) (hf : 0 ≤ f ∧ f ≤ 9223372036854775807) :
    Calls Try.prog 32 #[.int .i64 x, .int .i64 f] w fun e w' => e = .returned (.int .i64 (subN x f)) ∧ Below w.heap.size w w' := by
  by_cases c1 : x ≤ f
  · skip
    have E : Below w.heap.size w w := Below.refl _ _
    go_enter Try.func32, Try.ntmps32
    refine wp_seq ?_
    refine wl_in ?_
    refine wl_cap fun Q hQ => ?_
    refine st_to (v := (.int .i64 0)) (some 4) rfl rfl (ex_asg rfl rfl) ?_
    simp only [Act.put, List.setIfInBounds_toArray, List.set_cons_zero, List.set_cons_succ]
    refine st_end ?_
    subst hQ
    refine wp_seq ?_
    refine wp_seq ?_
    refine wl_in ?_
    refine wl_cap fun Q hQ => ?_
    refine st_to (v := (.int .i64 x)) (some 5) rfl rfl (ex_mv rfl rfl) ?_
    simp only [Act.put, List.setIfInBounds_toArray, List.set_cons_zero, List.set_cons_succ]
    refine st_to (v := (.int .i64 f)) (some 6) rfl rfl (ex_mv rfl rfl) ?_
    simp only [Act.put, List.setIfInBounds_toArray, List.set_cons_zero, List.set_cons_succ]
    refine st_to (v := (.bool true)) (some 7) rfl rfl (ex_bin (u := (.int .i64 x)) (r := (.int .i64 f)) rfl rfl rfl (eg3 _ _ _ _ _ _) (leq3 _ (decide_eq_true c1))) ?_
    simp only [Act.put, List.setIfInBounds_toArray, List.set_cons_zero, List.set_cons_succ]
    refine st_end ?_
    subst hQ
    refine wp_cond_true rfl ?_
    refine wp_seq ?_
    refine wl_in ?_
    refine wl_cap fun Q hQ => ?_
    refine st_to (v := (.int .i64 0)) (some 4) rfl rfl (ex_asg rfl rfl) ?_
    simp only [Act.put, List.setIfInBounds_toArray, List.set_cons_zero, List.set_cons_succ]
    refine st_end ?_
    subst hQ
    refine wp_ret ?_
    refine ret_out ?_
    refine bodyPost_ret (results_tmp Try.results32 _ _ _) rfl ⟨?_, E⟩
    have e : subN x f = 0 := by
      unfold subN
      rw [if_neg (by omega)]
      split <;> omega
    rw [e]
    rfl
  have E : Below w.heap.size w w := Below.refl _ _
  go_enter Try.func32, Try.ntmps32
  refine wp_seq ?_
  refine wl_in ?_
  refine wl_cap fun Q hQ => ?_
  refine st_to (v := (.int .i64 0)) (some 4) rfl rfl (ex_asg rfl rfl) ?_
  simp only [Act.put, List.setIfInBounds_toArray, List.set_cons_zero, List.set_cons_succ]
  refine st_end ?_
  subst hQ
  refine wp_seq ?_
  refine wp_seq ?_
  refine wl_in ?_
  refine wl_cap fun Q hQ => ?_
  refine st_to (v := (.int .i64 x)) (some 5) rfl rfl (ex_mv rfl rfl) ?_
  simp only [Act.put, List.setIfInBounds_toArray, List.set_cons_zero, List.set_cons_succ]
  refine st_to (v := (.int .i64 f)) (some 6) rfl rfl (ex_mv rfl rfl) ?_
  simp only [Act.put, List.setIfInBounds_toArray, List.set_cons_zero, List.set_cons_succ]
  refine st_to (v := (.bool false)) (some 7) rfl rfl (ex_bin (u := (.int .i64 x)) (r := (.int .i64 f)) rfl rfl rfl (eg3 _ _ _ _ _ _) (leq3 _ (decide_eq_false c1))) ?_
  simp only [Act.put, List.setIfInBounds_toArray, List.set_cons_zero, List.set_cons_succ]
  refine st_end ?_
  subst hQ
  refine wp_cond_false rfl ?_
  refine wp_skip ?_
  refine wp_seq ?_
  refine wl_in ?_
  refine wl_cap fun Q hQ => ?_
  refine st_to (v := (.int .i64 x)) (some 8) rfl rfl (ex_mv rfl rfl) ?_
  simp only [Act.put, List.setIfInBounds_toArray, List.set_cons_zero, List.set_cons_succ]
  refine st_to (v := (.int .i64 f)) (some 9) rfl rfl (ex_mv rfl rfl) ?_
  simp only [Act.put, List.setIfInBounds_toArray, List.set_cons_zero, List.set_cons_succ]
  refine st_to (v := (.int .i64 (x - f))) (some 10) rfl rfl (ex_bin rfl rfl rfl (eg3 _ _ _ _ _ _) (sub3 _ rfl (by omega))) ?_
  simp only [Act.put, List.setIfInBounds_toArray, List.set_cons_zero, List.set_cons_succ]
  refine st_to (v := (.int .i64 (x - f))) (some 4) rfl rfl (ex_asg rfl rfl) ?_
  simp only [Act.put, List.setIfInBounds_toArray, List.set_cons_zero, List.set_cons_succ]
  refine st_end ?_
  subst hQ
  refine wp_ret ?_
  refine bodyPost_ret (results_tmp Try.results32 _ _ _) rfl ⟨?_, E⟩
  have e : subN x f = x - f := by
    unfold subN
    rw [if_neg (by omega), if_neg (by omega)]
  rw [e]
  rfl
theorem faH0 (b p : Nat) (W : World) : (Instr.fieldAt 49 (.pointer (some ⟨b, p, none⟩)) 0).run Try.prog W = .ok (.pointer (some ⟨b, p, none⟩)) W := by go_simp
theorem faH1 (b p : Nat) (W : World) : (Instr.fieldAt 49 (.pointer (some ⟨b, p, none⟩)) 1).run Try.prog W = .ok (.pointer (some ⟨b, p + 1, none⟩)) W := by go_simp
theorem range_at {W : World} {b o : Nat} {C : Array Value} (h : W.rangeAt b o C.toList) {k : Nat} {v : Value} (hv : C[k]? = some v) : W.cell? ⟨b, o + k, none⟩ = some v := h k v (by simpa using hv)
theorem range_at0 {W : World} {b o : Nat} {C : Array Value} (h : W.rangeAt b o C.toList) {v : Value} (hv : C[0]? = some v) : W.cell? ⟨b, o, none⟩ = some v := h 0 v (by simpa using hv)
set_option maxHeartbeats 4000000 in
theorem rplace_any {x y by_ id : Int} {ao : Option Addr} {n c : Nat} {Cs : Nat → Array Value} {hv : Nat → HV} (w : World) (hH : Hs w ao n Cs hv) (hn : n ≤ 140737488355328) :
    Calls Try.prog 25 #[.agg #[.int .i64 x, .int .i64 y, .slice ao n c], .int .i64 by_, .int .i64 id] w fun e w' => e = .returned (.tuple #[.int .i64 (plN by_ id n hv), .bool (plB by_ id n hv)]) ∧ Below w.heap.size w w' := by
  have E : Below w.heap.size w w := Below.refl _ _
  go_enter Try.func25, Try.ntmps25
  refine wp_seq ?_
  refine wl_in ?_
  refine wl_cap fun Q hQ => ?_
  refine st_new (fun b => .pointer (some ⟨b, 0, none⟩)) (some 3) rfl rfl (ex_box rfl rfl) ?_
  intro b1 W1 k1 g1 B
  simp only [Act.put, List.setIfInBounds_toArray, List.set_cons_zero, List.set_cons_succ]
  have ge_b1 := Nat.le_trans E.size g1
  replace E := below_next E B
  clear B
  refine st_to (v := (.int .i64 0)) (some 6) rfl rfl (ex_asg rfl rfl) ?_
  simp only [Act.put, List.setIfInBounds_toArray, List.set_cons_zero, List.set_cons_succ]
  refine st_to (v := (.bool false)) (some 7) rfl rfl (ex_asg rfl rfl) ?_
  simp only [Act.put, List.setIfInBounds_toArray, List.set_cons_zero, List.set_cons_succ]
  refine st_end ?_
  subst hQ
  refine wp_seq ?_
  refine wp_seq ?_
  refine wl_in ?_
  refine wl_cap fun Q hQ => ?_
  refine st_to (v := (.int .i64 0)) (some 8) rfl rfl (ex_asg rfl rfl) ?_
  simp only [Act.put, List.setIfInBounds_toArray, List.set_cons_zero, List.set_cons_succ]
  refine st_end ?_
  subst hQ
  refine wp_block ?_
  go_loop [8] (fun v8 => ∃ i : Nat, i ≤ n ∧ v8 = .int .i64 i ∧ ∀ j, j < i → isP by_ id (hv j) = false) (fun v8 => n - (intOf v8).toNat)
  case atStart => exact ⟨0, Nat.zero_le _, rfl, fun j hj => by omega⟩
  case round =>
    obtain ⟨i, hi, rfl, hno⟩ := hrel
    by_cases hlt : i < n
    · rcases hH with hh | ⟨b, p, rfl, hh⟩
      · omega
      have HC := hh i hlt
      have HR := range_below HC.2 E
      have q0 := range_at0 HR HC.1.c0
      have q1 := range_at HR HC.1.c1
      by_cases c1 : (hv i).by_ = by_
      rotate_left
      · skip
        refine wp_seq ?_
        refine wp_seq ?_
        refine wl_in ?_
        refine wl_cap fun Q hQ => ?_
        refine st_to (v := (.int .i64 (i : Nat))) (some 9) rfl rfl (ex_mv rfl rfl) ?_
        simp only [Act.put, List.setIfInBounds_toArray, List.set_cons_zero, List.set_cons_succ]
        refine st_to (v := (.pointer (some ⟨b1, 2, none⟩))) (some 10) rfl rfl (ex_fa (p := (.pointer (some ⟨b1, 0, none⟩))) rfl rfl (fa29_2 _ _)) ?_
        simp only [Act.put, List.setIfInBounds_toArray, List.set_cons_zero, List.set_cons_succ]
        refine st_to (v := (.slice (some ⟨b, p, none⟩) n c)) (some 11) rfl rfl (ex_load (p := (.pointer (some ⟨b1, 2, none⟩))) rfl rfl (ld27 (at_cell k1 rfl))) ?_
        simp only [Act.put, List.setIfInBounds_toArray, List.set_cons_zero, List.set_cons_succ]
        refine st_to (v := (.int .i64 (n : Nat))) (some 12) rfl rfl (ex_len rfl rfl (len27 _ _ _ _ _)) ?_
        simp only [Act.put, List.setIfInBounds_toArray, List.set_cons_zero, List.set_cons_succ]
        refine st_to (v := (.bool true)) (some 13) rfl rfl (ex_bin (u := (.int .i64 (i : Nat))) (r := (.int .i64 (n : Nat))) rfl rfl rfl (eg3 _ _ _ _ _ _) (lss3 _ (decide_eq_true (by omega)))) ?_
        simp only [Act.put, List.setIfInBounds_toArray, List.set_cons_zero, List.set_cons_succ]
        refine st_end ?_
        subst hQ
        refine wp_cond_true rfl ?_
        refine wp_skip ?_
        refine wp_seq ?_
        refine wp_block ?_
        refine wp_seq ?_
        refine wl_in ?_
        refine wl_cap fun Q hQ => ?_
        refine st_to (v := (.pointer (some ⟨b1, 2, none⟩))) (some 16) rfl rfl (ex_fa (p := (.pointer (some ⟨b1, 0, none⟩))) rfl rfl (fa29_2 _ _)) ?_
        simp only [Act.put, List.setIfInBounds_toArray, List.set_cons_zero, List.set_cons_succ]
        refine st_to (v := (.slice (some ⟨b, p, none⟩) n c)) (some 17) rfl rfl (ex_load (p := (.pointer (some ⟨b1, 2, none⟩))) rfl rfl (ld27 (at_cell k1 rfl))) ?_
        simp only [Act.put, List.setIfInBounds_toArray, List.set_cons_zero, List.set_cons_succ]
        refine st_to (v := (.int .i64 (i : Nat))) (some 18) rfl rfl (ex_mv rfl rfl) ?_
        simp only [Act.put, List.setIfInBounds_toArray, List.set_cons_zero, List.set_cons_succ]
        refine st_to (v := (.pointer (some ⟨b, (p + i * 36), none⟩))) (some 19) rfl rfl (ex_ix27 rfl rfl rfl hlt) ?_
        simp only [Act.put, List.setIfInBounds_toArray, List.set_cons_zero, List.set_cons_succ]
        refine st_to (v := (.pointer (some ⟨b, (p + i * 36), none⟩))) (some 20) rfl rfl (ex_fa rfl rfl (faH0 _ _ _)) ?_
        simp only [Act.put, List.setIfInBounds_toArray, List.set_cons_zero, List.set_cons_succ]
        refine st_to (v := (.int .i64 (hv i).by_)) (some 21) rfl rfl (ex_load rfl rfl (ld3 q0)) ?_
        simp only [Act.put, List.setIfInBounds_toArray, List.set_cons_zero, List.set_cons_succ]
        refine st_to (v := (.int .i64 by_)) (some 22) rfl rfl (ex_mv rfl rfl) ?_
        simp only [Act.put, List.setIfInBounds_toArray, List.set_cons_zero, List.set_cons_succ]
        refine st_to (v := (.bool false)) (some 23) rfl rfl (ex_bin (u := (.int .i64 (hv i).by_)) (r := (.int .i64 by_)) rfl rfl rfl (eg3 _ _ _ _ _ _) (eql3 _ (decide_eq_false c1))) ?_
        simp only [Act.put, List.setIfInBounds_toArray, List.set_cons_zero, List.set_cons_succ]
        refine st_to (v := (.bool false)) (some 24) rfl rfl (ex_mv rfl rfl) ?_
        simp only [Act.put, List.setIfInBounds_toArray, List.set_cons_zero, List.set_cons_succ]
        refine st_no (some 25) rfl rfl ?_
        simp only [Act.put, List.setIfInBounds_toArray, List.set_cons_zero, List.set_cons_succ]
        refine st_no (some 26) rfl rfl ?_
        simp only [Act.put, List.setIfInBounds_toArray, List.set_cons_zero, List.set_cons_succ]
        refine st_no (some 27) rfl rfl ?_
        simp only [Act.put, List.setIfInBounds_toArray, List.set_cons_zero, List.set_cons_succ]
        refine st_no (some 28) rfl rfl ?_
        simp only [Act.put, List.setIfInBounds_toArray, List.set_cons_zero, List.set_cons_succ]
        refine st_no (some 29) rfl rfl ?_
        simp only [Act.put, List.setIfInBounds_toArray, List.set_cons_zero, List.set_cons_succ]
        refine st_no (some 30) rfl rfl ?_
        simp only [Act.put, List.setIfInBounds_toArray, List.set_cons_zero, List.set_cons_succ]
        refine st_no (some 31) rfl rfl ?_
        simp only [Act.put, List.setIfInBounds_toArray, List.set_cons_zero, List.set_cons_succ]
        refine st_no (some 32) rfl rfl ?_
        simp only [Act.put, List.setIfInBounds_toArray, List.set_cons_zero, List.set_cons_succ]
        refine st_to (v := (.bool false)) (some 33) rfl rfl (ex_pkF rfl rfl rfl) ?_
        simp only [Act.put, List.setIfInBounds_toArray, List.set_cons_zero, List.set_cons_succ]
        refine st_end ?_
        subst hQ
        refine wp_cond_false rfl ?_
        refine wp_skip ?_
        refine wl_in ?_
        refine wl_cap fun Q hQ => ?_
        refine st_to (v := (.int .i64 (i : Nat))) (some 14) rfl rfl (ex_mv rfl rfl) ?_
        simp only [Act.put, List.setIfInBounds_toArray, List.set_cons_zero, List.set_cons_succ]
        refine st_to (v := (.int .i64 ((i + 1 : Nat) : Int))) (some 15) rfl rfl (ex_bin rfl rfl rfl (eg3 _ _ _ _ _ _) (add3 _ (by omega) (by omega))) ?_
        simp only [Act.put, List.setIfInBounds_toArray, List.set_cons_zero, List.set_cons_succ]
        refine st_to (v := (.int .i64 ((i + 1 : Nat) : Int))) (some 8) rfl rfl (ex_asg rfl rfl) ?_
        simp only [Act.put, List.setIfInBounds_toArray, List.set_cons_zero, List.set_cons_succ]
        refine st_end ?_
        subst hQ
        refine then_go ?_
        go_round
        case rel =>
          refine ⟨i + 1, by omega, rfl, fun j hj => ?_⟩
          by_cases e : j = i
          · subst e; exact decide_eq_false (fun h => c1 h.1)
          · exact hno j (by omega)
        case measure => simp [intOf]; omega
      by_cases c2 : (hv i).id = id
      rotate_left
      · skip
        refine wp_seq ?_
        refine wp_seq ?_
        refine wl_in ?_
        refine wl_cap fun Q hQ => ?_
        refine st_to (v := (.int .i64 (i : Nat))) (some 9) rfl rfl (ex_mv rfl rfl) ?_
        simp only [Act.put, List.setIfInBounds_toArray, List.set_cons_zero, List.set_cons_succ]
        refine st_to (v := (.pointer (some ⟨b1, 2, none⟩))) (some 10) rfl rfl (ex_fa (p := (.pointer (some ⟨b1, 0, none⟩))) rfl rfl (fa29_2 _ _)) ?_
        simp only [Act.put, List.setIfInBounds_toArray, List.set_cons_zero, List.set_cons_succ]
        refine st_to (v := (.slice (some ⟨b, p, none⟩) n c)) (some 11) rfl rfl (ex_load (p := (.pointer (some ⟨b1, 2, none⟩))) rfl rfl (ld27 (at_cell k1 rfl))) ?_
        simp only [Act.put, List.setIfInBounds_toArray, List.set_cons_zero, List.set_cons_succ]
        refine st_to (v := (.int .i64 (n : Nat))) (some 12) rfl rfl (ex_len rfl rfl (len27 _ _ _ _ _)) ?_
        simp only [Act.put, List.setIfInBounds_toArray, List.set_cons_zero, List.set_cons_succ]
        refine st_to (v := (.bool true)) (some 13) rfl rfl (ex_bin (u := (.int .i64 (i : Nat))) (r := (.int .i64 (n : Nat))) rfl rfl rfl (eg3 _ _ _ _ _ _) (lss3 _ (decide_eq_true (by omega)))) ?_
        simp only [Act.put, List.setIfInBounds_toArray, List.set_cons_zero, List.set_cons_succ]
        refine st_end ?_
        subst hQ
        refine wp_cond_true rfl ?_
        refine wp_skip ?_
        refine wp_seq ?_
        refine wp_block ?_
        refine wp_seq ?_
        refine wl_in ?_
        refine wl_cap fun Q hQ => ?_
        refine st_to (v := (.pointer (some ⟨b1, 2, none⟩))) (some 16) rfl rfl (ex_fa (p := (.pointer (some ⟨b1, 0, none⟩))) rfl rfl (fa29_2 _ _)) ?_
        simp only [Act.put, List.setIfInBounds_toArray, List.set_cons_zero, List.set_cons_succ]
        refine st_to (v := (.slice (some ⟨b, p, none⟩) n c)) (some 17) rfl rfl (ex_load (p := (.pointer (some ⟨b1, 2, none⟩))) rfl rfl (ld27 (at_cell k1 rfl))) ?_
        simp only [Act.put, List.setIfInBounds_toArray, List.set_cons_zero, List.set_cons_succ]
        refine st_to (v := (.int .i64 (i : Nat))) (some 18) rfl rfl (ex_mv rfl rfl) ?_
        simp only [Act.put, List.setIfInBounds_toArray, List.set_cons_zero, List.set_cons_succ]
        refine st_to (v := (.pointer (some ⟨b, (p + i * 36), none⟩))) (some 19) rfl rfl (ex_ix27 rfl rfl rfl hlt) ?_
        simp only [Act.put, List.setIfInBounds_toArray, List.set_cons_zero, List.set_cons_succ]
        refine st_to (v := (.pointer (some ⟨b, (p + i * 36), none⟩))) (some 20) rfl rfl (ex_fa rfl rfl (faH0 _ _ _)) ?_
        simp only [Act.put, List.setIfInBounds_toArray, List.set_cons_zero, List.set_cons_succ]
        refine st_to (v := (.int .i64 (hv i).by_)) (some 21) rfl rfl (ex_load rfl rfl (ld3 q0)) ?_
        simp only [Act.put, List.setIfInBounds_toArray, List.set_cons_zero, List.set_cons_succ]
        refine st_to (v := (.int .i64 by_)) (some 22) rfl rfl (ex_mv rfl rfl) ?_
        simp only [Act.put, List.setIfInBounds_toArray, List.set_cons_zero, List.set_cons_succ]
        refine st_to (v := (.bool true)) (some 23) rfl rfl (ex_bin (u := (.int .i64 (hv i).by_)) (r := (.int .i64 by_)) rfl rfl rfl (eg3 _ _ _ _ _ _) (eql3 _ (decide_eq_true c1))) ?_
        simp only [Act.put, List.setIfInBounds_toArray, List.set_cons_zero, List.set_cons_succ]
        refine st_to (v := (.bool true)) (some 24) rfl rfl (ex_mv rfl rfl) ?_
        simp only [Act.put, List.setIfInBounds_toArray, List.set_cons_zero, List.set_cons_succ]
        refine st_to (v := (.pointer (some ⟨b1, 2, none⟩))) (some 25) rfl rfl (ex_fa (p := (.pointer (some ⟨b1, 0, none⟩))) rfl rfl (fa29_2 _ _)) ?_
        simp only [Act.put, List.setIfInBounds_toArray, List.set_cons_zero, List.set_cons_succ]
        refine st_to (v := (.slice (some ⟨b, p, none⟩) n c)) (some 26) rfl rfl (ex_load (p := (.pointer (some ⟨b1, 2, none⟩))) rfl rfl (ld27 (at_cell k1 rfl))) ?_
        simp only [Act.put, List.setIfInBounds_toArray, List.set_cons_zero, List.set_cons_succ]
        refine st_to (v := (.int .i64 (i : Nat))) (some 27) rfl rfl (ex_mv rfl rfl) ?_
        simp only [Act.put, List.setIfInBounds_toArray, List.set_cons_zero, List.set_cons_succ]
        refine st_to (v := (.pointer (some ⟨b, (p + i * 36), none⟩))) (some 28) rfl rfl (ex_ix27 rfl rfl rfl hlt) ?_
        simp only [Act.put, List.setIfInBounds_toArray, List.set_cons_zero, List.set_cons_succ]
        refine st_to (v := (.pointer (some ⟨b, (p + i * 36 + 1), none⟩))) (some 29) rfl rfl (ex_fa rfl rfl (faH1 _ _ _)) ?_
        simp only [Act.put, List.setIfInBounds_toArray, List.set_cons_zero, List.set_cons_succ]
        refine st_to (v := (.int .i64 (hv i).id)) (some 30) rfl rfl (ex_load rfl rfl (ld3 q1)) ?_
        simp only [Act.put, List.setIfInBounds_toArray, List.set_cons_zero, List.set_cons_succ]
        refine st_to (v := (.int .i64 id)) (some 31) rfl rfl (ex_mv rfl rfl) ?_
        simp only [Act.put, List.setIfInBounds_toArray, List.set_cons_zero, List.set_cons_succ]
        refine st_to (v := (.bool false)) (some 32) rfl rfl (ex_bin (u := (.int .i64 (hv i).id)) (r := (.int .i64 id)) rfl rfl rfl (eg3 _ _ _ _ _ _) (eql3 _ (decide_eq_false c2))) ?_
        simp only [Act.put, List.setIfInBounds_toArray, List.set_cons_zero, List.set_cons_succ]
        refine st_to (v := (.bool false)) (some 33) rfl rfl (ex_pkT rfl rfl rfl) ?_
        simp only [Act.put, List.setIfInBounds_toArray, List.set_cons_zero, List.set_cons_succ]
        refine st_end ?_
        subst hQ
        refine wp_cond_false rfl ?_
        refine wp_skip ?_
        refine wl_in ?_
        refine wl_cap fun Q hQ => ?_
        refine st_to (v := (.int .i64 (i : Nat))) (some 14) rfl rfl (ex_mv rfl rfl) ?_
        simp only [Act.put, List.setIfInBounds_toArray, List.set_cons_zero, List.set_cons_succ]
        refine st_to (v := (.int .i64 ((i + 1 : Nat) : Int))) (some 15) rfl rfl (ex_bin rfl rfl rfl (eg3 _ _ _ _ _ _) (add3 _ (by omega) (by omega))) ?_
        simp only [Act.put, List.setIfInBounds_toArray, List.set_cons_zero, List.set_cons_succ]
        refine st_to (v := (.int .i64 ((i + 1 : Nat) : Int))) (some 8) rfl rfl (ex_asg rfl rfl) ?_
        simp only [Act.put, List.setIfInBounds_toArray, List.set_cons_zero, List.set_cons_succ]
        refine st_end ?_
        subst hQ
        refine then_go ?_
        go_round
        case rel =>
          refine ⟨i + 1, by omega, rfl, fun j hj => ?_⟩
          by_cases e : j = i
          · subst e; exact decide_eq_false (fun h => c2 h.2)
          · exact hno j (by omega)
        case measure => simp [intOf]; omega
      refine wp_seq ?_
      refine wp_seq ?_
      refine wl_in ?_
      refine wl_cap fun Q hQ => ?_
      refine st_to (v := (.int .i64 (i : Nat))) (some 9) rfl rfl (ex_mv rfl rfl) ?_
      simp only [Act.put, List.setIfInBounds_toArray, List.set_cons_zero, List.set_cons_succ]
      refine st_to (v := (.pointer (some ⟨b1, 2, none⟩))) (some 10) rfl rfl (ex_fa (p := (.pointer (some ⟨b1, 0, none⟩))) rfl rfl (fa29_2 _ _)) ?_
      simp only [Act.put, List.setIfInBounds_toArray, List.set_cons_zero, List.set_cons_succ]
      refine st_to (v := (.slice (some ⟨b, p, none⟩) n c)) (some 11) rfl rfl (ex_load (p := (.pointer (some ⟨b1, 2, none⟩))) rfl rfl (ld27 (at_cell k1 rfl))) ?_
      simp only [Act.put, List.setIfInBounds_toArray, List.set_cons_zero, List.set_cons_succ]
      refine st_to (v := (.int .i64 (n : Nat))) (some 12) rfl rfl (ex_len rfl rfl (len27 _ _ _ _ _)) ?_
      simp only [Act.put, List.setIfInBounds_toArray, List.set_cons_zero, List.set_cons_succ]
      refine st_to (v := (.bool true)) (some 13) rfl rfl (ex_bin (u := (.int .i64 (i : Nat))) (r := (.int .i64 (n : Nat))) rfl rfl rfl (eg3 _ _ _ _ _ _) (lss3 _ (decide_eq_true (by omega)))) ?_
      simp only [Act.put, List.setIfInBounds_toArray, List.set_cons_zero, List.set_cons_succ]
      refine st_end ?_
      subst hQ
      refine wp_cond_true rfl ?_
      refine wp_skip ?_
      refine wp_seq ?_
      refine wp_block ?_
      refine wp_seq ?_
      refine wl_in ?_
      refine wl_cap fun Q hQ => ?_
      refine st_to (v := (.pointer (some ⟨b1, 2, none⟩))) (some 16) rfl rfl (ex_fa (p := (.pointer (some ⟨b1, 0, none⟩))) rfl rfl (fa29_2 _ _)) ?_
      simp only [Act.put, List.setIfInBounds_toArray, List.set_cons_zero, List.set_cons_succ]
      refine st_to (v := (.slice (some ⟨b, p, none⟩) n c)) (some 17) rfl rfl (ex_load (p := (.pointer (some ⟨b1, 2, none⟩))) rfl rfl (ld27 (at_cell k1 rfl))) ?_
      simp only [Act.put, List.setIfInBounds_toArray, List.set_cons_zero, List.set_cons_succ]
      refine st_to (v := (.int .i64 (i : Nat))) (some 18) rfl rfl (ex_mv rfl rfl) ?_
      simp only [Act.put, List.setIfInBounds_toArray, List.set_cons_zero, List.set_cons_succ]
      refine st_to (v := (.pointer (some ⟨b, (p + i * 36), none⟩))) (some 19) rfl rfl (ex_ix27 rfl rfl rfl hlt) ?_
      simp only [Act.put, List.setIfInBounds_toArray, List.set_cons_zero, List.set_cons_succ]
      refine st_to (v := (.pointer (some ⟨b, (p + i * 36), none⟩))) (some 20) rfl rfl (ex_fa rfl rfl (faH0 _ _ _)) ?_
      simp only [Act.put, List.setIfInBounds_toArray, List.set_cons_zero, List.set_cons_succ]
      refine st_to (v := (.int .i64 (hv i).by_)) (some 21) rfl rfl (ex_load rfl rfl (ld3 q0)) ?_
      simp only [Act.put, List.setIfInBounds_toArray, List.set_cons_zero, List.set_cons_succ]
      refine st_to (v := (.int .i64 by_)) (some 22) rfl rfl (ex_mv rfl rfl) ?_
      simp only [Act.put, List.setIfInBounds_toArray, List.set_cons_zero, List.set_cons_succ]
      refine st_to (v := (.bool true)) (some 23) rfl rfl (ex_bin (u := (.int .i64 (hv i).by_)) (r := (.int .i64 by_)) rfl rfl rfl (eg3 _ _ _ _ _ _) (eql3 _ (decide_eq_true c1))) ?_
      simp only [Act.put, List.setIfInBounds_toArray, List.set_cons_zero, List.set_cons_succ]
      refine st_to (v := (.bool true)) (some 24) rfl rfl (ex_mv rfl rfl) ?_
      simp only [Act.put, List.setIfInBounds_toArray, List.set_cons_zero, List.set_cons_succ]
      refine st_to (v := (.pointer (some ⟨b1, 2, none⟩))) (some 25) rfl rfl (ex_fa (p := (.pointer (some ⟨b1, 0, none⟩))) rfl rfl (fa29_2 _ _)) ?_
      simp only [Act.put, List.setIfInBounds_toArray, List.set_cons_zero, List.set_cons_succ]
      refine st_to (v := (.slice (some ⟨b, p, none⟩) n c)) (some 26) rfl rfl (ex_load (p := (.pointer (some ⟨b1, 2, none⟩))) rfl rfl (ld27 (at_cell k1 rfl))) ?_
      simp only [Act.put, List.setIfInBounds_toArray, List.set_cons_zero, List.set_cons_succ]
      refine st_to (v := (.int .i64 (i : Nat))) (some 27) rfl rfl (ex_mv rfl rfl) ?_
      simp only [Act.put, List.setIfInBounds_toArray, List.set_cons_zero, List.set_cons_succ]
      refine st_to (v := (.pointer (some ⟨b, (p + i * 36), none⟩))) (some 28) rfl rfl (ex_ix27 rfl rfl rfl hlt) ?_
      simp only [Act.put, List.setIfInBounds_toArray, List.set_cons_zero, List.set_cons_succ]
      refine st_to (v := (.pointer (some ⟨b, (p + i * 36 + 1), none⟩))) (some 29) rfl rfl (ex_fa rfl rfl (faH1 _ _ _)) ?_
      simp only [Act.put, List.setIfInBounds_toArray, List.set_cons_zero, List.set_cons_succ]
      refine st_to (v := (.int .i64 (hv i).id)) (some 30) rfl rfl (ex_load rfl rfl (ld3 q1)) ?_
      simp only [Act.put, List.setIfInBounds_toArray, List.set_cons_zero, List.set_cons_succ]
      refine st_to (v := (.int .i64 id)) (some 31) rfl rfl (ex_mv rfl rfl) ?_
      simp only [Act.put, List.setIfInBounds_toArray, List.set_cons_zero, List.set_cons_succ]
      refine st_to (v := (.bool true)) (some 32) rfl rfl (ex_bin (u := (.int .i64 (hv i).id)) (r := (.int .i64 id)) rfl rfl rfl (eg3 _ _ _ _ _ _) (eql3 _ (decide_eq_true c2))) ?_
      simp only [Act.put, List.setIfInBounds_toArray, List.set_cons_zero, List.set_cons_succ]
      refine st_to (v := (.bool true)) (some 33) rfl rfl (ex_pkT rfl rfl rfl) ?_
      simp only [Act.put, List.setIfInBounds_toArray, List.set_cons_zero, List.set_cons_succ]
      refine st_end ?_
      subst hQ
      refine wp_cond_true rfl ?_
      refine wp_seq ?_
      refine wl_in ?_
      refine wl_cap fun Q hQ => ?_
      refine st_to (v := (.int .i64 (i : Nat))) (some 34) rfl rfl (ex_mv rfl rfl) ?_
      simp only [Act.put, List.setIfInBounds_toArray, List.set_cons_zero, List.set_cons_succ]
      refine st_to (v := (.int .i64 ((i + 2 : Nat) : Int))) (some 35) rfl rfl (ex_bin rfl rfl rfl (eg3 _ _ _ _ _ _) (add3 _ (by omega) (by omega))) ?_
      simp only [Act.put, List.setIfInBounds_toArray, List.set_cons_zero, List.set_cons_succ]
      refine st_to (v := (.int .i64 ((i + 2 : Nat) : Int))) (some 6) rfl rfl (ex_asg rfl rfl) ?_
      simp only [Act.put, List.setIfInBounds_toArray, List.set_cons_zero, List.set_cons_succ]
      refine st_to (v := (.bool true)) (some 7) rfl rfl (ex_asg rfl rfl) ?_
      simp only [Act.put, List.setIfInBounds_toArray, List.set_cons_zero, List.set_cons_succ]
      refine st_end ?_
      subst hQ
      refine wp_ret ?_
      repeat (first | refine ret_out ?_ | refine ret_blk ?_)
      have e1 : plI by_ id n hv = i := idxP_some hlt (decide_eq_true ⟨c1, c2⟩) hno
      have e2 : plN by_ id n hv = ((i + 2 : Nat) : Int) := by
        unfold plN
        rw [e1, if_neg (by omega)]
        omega
      have e3 : plB by_ id n hv = true := by
        unfold plB
        rw [e1]
        exact decide_eq_true (by omega)
      refine bodyPost_ret (results_tmp2 Try.results25 _ _ _) rfl ⟨?_, E⟩
      rw [e2, e3]
      rfl
    · skip
      have hi' : i = n := by omega
      subst hi'
      refine wp_seq ?_
      refine wp_seq ?_
      refine wl_in ?_
      refine wl_cap fun Q hQ => ?_
      refine st_to (v := (.int .i64 (i : Nat))) (some 9) rfl rfl (ex_mv rfl rfl) ?_
      simp only [Act.put, List.setIfInBounds_toArray, List.set_cons_zero, List.set_cons_succ]
      refine st_to (v := (.pointer (some ⟨b1, 2, none⟩))) (some 10) rfl rfl (ex_fa (p := (.pointer (some ⟨b1, 0, none⟩))) rfl rfl (fa29_2 _ _)) ?_
      simp only [Act.put, List.setIfInBounds_toArray, List.set_cons_zero, List.set_cons_succ]
      refine st_to (v := (.slice ao i c)) (some 11) rfl rfl (ex_load (p := (.pointer (some ⟨b1, 2, none⟩))) rfl rfl (ld27 (at_cell k1 rfl))) ?_
      simp only [Act.put, List.setIfInBounds_toArray, List.set_cons_zero, List.set_cons_succ]
      refine st_to (v := (.int .i64 (i : Nat))) (some 12) rfl rfl (ex_len rfl rfl (len27 _ _ _ _ _)) ?_
      simp only [Act.put, List.setIfInBounds_toArray, List.set_cons_zero, List.set_cons_succ]
      refine st_to (v := (.bool false)) (some 13) rfl rfl (ex_bin (u := (.int .i64 (i : Nat))) (r := (.int .i64 (i : Nat))) rfl rfl rfl (eg3 _ _ _ _ _ _) (lss3 _ (decide_eq_false (by omega)))) ?_
      simp only [Act.put, List.setIfInBounds_toArray, List.set_cons_zero, List.set_cons_succ]
      refine st_end ?_
      subst hQ
      refine wp_cond_false rfl ?_
      refine wp_exit ?_
      refine ex_then ?_
      refine ex_then ?_
      refine ex_blk ?_
      refine wp_seq ?_
      refine wl_in ?_
      refine wl_cap fun Q hQ => ?_
      refine st_to (v := (.int .i64 0)) (some 6) rfl rfl (ex_asg rfl rfl) ?_
      simp only [Act.put, List.setIfInBounds_toArray, List.set_cons_zero, List.set_cons_succ]
      refine st_to (v := (.bool false)) (some 7) rfl rfl (ex_asg rfl rfl) ?_
      simp only [Act.put, List.setIfInBounds_toArray, List.set_cons_zero, List.set_cons_succ]
      refine st_end ?_
      subst hQ
      refine wp_ret ?_
      have e1 : plI by_ id i hv = -1 := idxP_none hno
      have e2 : plN by_ id i hv = 0 := by
        unfold plN
        rw [e1, if_pos (by omega)]
      have e3 : plB by_ id i hv = false := by
        unfold plB
        rw [e1]
        exact decide_eq_false (by omega)
      refine bodyPost_ret (results_tmp2 Try.results25 _ _ _) rfl ⟨?_, E⟩
      rw [e2, e3]
      rfl

end Go.Proofs.Ytkhpbjafdamhaaa
