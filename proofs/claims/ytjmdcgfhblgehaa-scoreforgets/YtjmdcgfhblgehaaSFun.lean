/- Score: small functions of the document. -/
import Derived.Test.YtjmdcgfhblgehaaSOps
import Derived.Test.YtjmdcgfhblgehaaFltP
namespace Go.Proofs.Ytjmdcgfhblgehaa
open Go.RowKit
set_option linter.unusedVariables false
set_option linter.unusedSimpArgs false
set_option maxRecDepth 100000

/-- a past, as cells -/
def PL (p : PV) : Array Value := #[.int .i64 p.good, .int .i64 p.gat, .int .i64 p.bad, .int .i64 p.bat]
theorem quo3 {x z : Int} (W : World) (hx : 0 ≤ x) (hx2 : x ≤ 9223372036854775807) (hz : x / 64 = z) : (binOp .quo 3 (.int .i64 x) (.int .i64 64)).run Try.prog W = .ok (.int .i64 z) W := by
  subst hz
  have h1 : Int.tdiv x 64 = x / 64 := Int.tdiv_eq_ediv_of_nonneg hx
  have h2 := IntKind.wrap_i64 (x / 64)
  go_simp
  all_goals omega
theorem rem3 {x z : Int} (W : World) (hx : 0 ≤ x) (hx2 : x ≤ 9223372036854775807) (hz : x % 64 = z) : (binOp .rem 3 (.int .i64 x) (.int .i64 64)).run Try.prog W = .ok (.int .i64 z) W := by
  subst hz
  have h1 : Int.tmod x 64 = x % 64 := Int.tmod_eq_emod_of_nonneg hx
  have h2 := IntKind.wrap_i64 (x % 64)
  go_simp
  all_goals omega
theorem sub3w {x y : Int} (W : World) : (binOp .sub 3 (.int .i64 x) (.int .i64 y)).run Try.prog W = .ok (.int .i64 (IntKind.i64.wrap (x - y))) W := by go_simp

theorem nan_any (w : World) : Calls Try.prog 29 #[] w fun e w' => e = .returned (.float .f64 9221120237041090561) ∧ Below w.heap.size w w' := by
  have E : Below w.heap.size w w := Below.refl _ _
  go_enter Try.func29, Try.ntmps29
  refine wq fun Q hQ => ?_
  refine sg (.float .f64 0) 0 rfl rfl rfl rfl ?_
  simp only [zp]
  refine st_end ?_
  subst hQ
  refine wq fun Q hQ => ?_
  refine sv (.float .f64 9221120237041090561) 1 rfl rfl (ex_ext1 rfl rfl (call_frombits 9221120237041090561 _)) ?_
  simp only [zp]
  refine sg (.float .f64 9221120237041090561) 0 rfl rfl rfl rfl ?_
  simp only [zp]
  refine st_end ?_
  subst hQ
  refine wp_ret ?_
  repeat (first | refine ret_out ?_ | refine ret_blk ?_)
  exact bodyPost_ret (results_tmp Try.results29 _ _ _) rfl ⟨rfl, E⟩
theorem inf_any (w : World) : Calls Try.prog 34 #[.int .i64 1] w fun e w' => e = .returned (.float .f64 9218868437227405312) ∧ Below w.heap.size w w' := by
  have E : Below w.heap.size w w := Below.refl _ _
  go_enter Try.func34, Try.ntmps34
  refine wq fun Q hQ => ?_
  refine sg (.float .f64 0) 2 rfl rfl rfl rfl ?_
  simp only [zp]
  refine st_end ?_
  subst hQ
  refine wq fun Q hQ => ?_
  refine sg (.int .u64 0) 3 rfl rfl rfl rfl ?_
  simp only [zp]
  refine st_end ?_
  subst hQ
  refine wp_seq ?_
  refine wq fun Q hQ => ?_
  refine sm (.int .i64 1) 4 rfl rfl rfl rfl ?_
  simp only [zp]
  refine sv (.bool true) 5 rfl rfl (ex_bin (u := (.int .i64 1)) (r := (.int .i64 0)) rfl rfl rfl (eg3 _ _ _ _ _ _) (geq3 _ (by decide))) ?_
  simp only [zp]
  refine st_end ?_
  subst hQ
  refine wp_cond_true rfl ?_
  refine wl_in (wl_cap fun Q hQ => ?_)
  refine sg (.int .u64 9218868437227405312) 3 rfl rfl rfl rfl ?_
  simp only [zp]
  refine st_end ?_
  subst hQ
  refine wq fun Q hQ => ?_
  refine sm (.int .u64 9218868437227405312) 6 rfl rfl rfl rfl ?_
  simp only [zp]
  refine sv (.float .f64 9218868437227405312) 7 rfl rfl (ex_ext1 rfl rfl (call_frombits 9218868437227405312 _)) ?_
  simp only [zp]
  refine sg (.float .f64 9218868437227405312) 2 rfl rfl rfl rfl ?_
  simp only [zp]
  refine st_end ?_
  subst hQ
  refine wp_ret ?_
  repeat (first | refine ret_out ?_ | refine ret_blk ?_)
  exact bodyPost_ret (results_tmp Try.results34 _ _ _) rfl ⟨rfl, E⟩
theorem isinf_any (x : Nat) (w : World) (hx : x < 18446744073709551616) {c : Bool} (hc : (x == 9218868437227405312) = c) : Calls Try.prog 28 #[.float .f64 x, .int .i64 1] w fun e w' => e = .returned (.bool c) ∧ Below w.heap.size w w' := by
  have E : Below w.heap.size w w := Below.refl _ _
  go_enter Try.func28, Try.ntmps28
  refine wq fun Q hQ => ?_
  refine sg (.bool false) 4 rfl rfl rfl rfl ?_
  simp only [zp]
  refine st_end ?_
  subst hQ
  refine wp_seq ?_
  refine wq fun Q hQ => ?_
  refine sm (.int .i64 1) 5 rfl rfl rfl rfl ?_
  simp only [zp]
  refine sv (.bool false) 6 rfl rfl (ex_bin (u := (.int .i64 1)) (r := (.int .i64 0)) rfl rfl rfl (eg3 _ _ _ _ _ _) (eql3 _ (by decide))) ?_
  simp only [zp]
  refine st_end ?_
  subst hQ
  refine wp_cond_false rfl ?_
  refine wq fun Q hQ => ?_
  refine sm (.int .i64 1) 9 rfl rfl rfl rfl ?_
  simp only [zp]
  refine sv (.bool false) 10 rfl rfl (ex_bin (u := (.int .i64 1)) (r := (.int .i64 0)) rfl rfl rfl (eg3 _ _ _ _ _ _) (lss3 _ (by decide))) ?_
  simp only [zp]
  refine st_end ?_
  subst hQ
  refine wp_cond_false rfl ?_
  refine wp_skip ?_
  refine wq fun Q hQ => ?_
  refine sm (.float .f64 x) 13 rfl rfl rfl rfl ?_
  simp only [zp]
  refine sv (.bool c) 14 rfl rfl (ex_bin rfl rfl rfl (egF _ _ _ _ _ _) (gtrF _ ((is_inf hx).trans hc))) ?_
  simp only [zp]
  refine sg (.bool c) 4 rfl rfl rfl rfl ?_
  simp only [zp]
  refine st_end ?_
  subst hQ
  refine wp_ret ?_
  repeat (first | refine ret_out ?_ | refine ret_blk ?_)
  exact bodyPost_ret (results_tmp Try.results28 _ _ _) rfl ⟨rfl, E⟩
set_option maxHeartbeats 2000000 in
theorem rclean_any (x : Nat) (w : World) (hx : x < 18446744073709551616) : Calls Try.prog 12 #[.float .f64 x] w fun e w' => e = .returned (.float .f64 (cln x)) ∧ Below w.heap.size w w' := by
  by_cases e0 : isN x = true
  · skip
    have E : Below w.heap.size w w := Below.refl _ _
    go_enter Try.func12, Try.ntmps12
    refine wq fun Q hQ => ?_
    refine sg (.float .f64 0) 2 rfl rfl rfl rfl ?_
    simp only [zp]
    refine st_end ?_
    subst hQ
    refine wp_seq ?_
    refine wq fun Q hQ => ?_
    refine sm (.float .f64 x) 3 rfl rfl rfl rfl ?_
    simp only [zp]
    refine sv (.bool false) 4 rfl rfl (ex_bin rfl rfl rfl (egF _ _ _ _ _ _) (gtrF _ (no_gt (.inl e0)))) ?_
    simp only [zp]
    refine sv (.bool true) 5 rfl rfl (ex_not rfl rfl rfl) ?_
    simp only [zp]
    refine st_end ?_
    subst hQ
    refine wp_cond_true rfl ?_
    refine wq fun Q hQ => ?_
    refine sg (.float .f64 0) 2 rfl rfl rfl rfl ?_
    simp only [zp]
    refine st_end ?_
    subst hQ
    refine wp_ret ?_
    repeat (first | refine ret_out ?_ | refine ret_blk ?_)
    refine bodyPost_ret (results_tmp Try.results12 _ _ _) rfl ⟨?_, E⟩
    show Ending.returned (.float .f64 0) = _
    simp [cln, e0] <;> rfl
  · skip
    replace e0 := Bool.eq_false_iff.2 e0
    by_cases e1 : key x ≤ 0
    · skip
      have E : Below w.heap.size w w := Below.refl _ _
      go_enter Try.func12, Try.ntmps12
      refine wq fun Q hQ => ?_
      refine sg (.float .f64 0) 2 rfl rfl rfl rfl ?_
      simp only [zp]
      refine st_end ?_
      subst hQ
      refine wp_seq ?_
      refine wq fun Q hQ => ?_
      refine sm (.float .f64 x) 3 rfl rfl rfl rfl ?_
      simp only [zp]
      refine sv (.bool false) 4 rfl rfl (ex_bin rfl rfl rfl (egF _ _ _ _ _ _) (gtrF _ (is_gt e0 N0 (decide_eq_false (by rw [key_zero]; omega))))) ?_
      simp only [zp]
      refine sv (.bool true) 5 rfl rfl (ex_not rfl rfl rfl) ?_
      simp only [zp]
      refine st_end ?_
      subst hQ
      refine wp_cond_true rfl ?_
      refine wq fun Q hQ => ?_
      refine sg (.float .f64 0) 2 rfl rfl rfl rfl ?_
      simp only [zp]
      refine st_end ?_
      subst hQ
      refine wp_ret ?_
      repeat (first | refine ret_out ?_ | refine ret_blk ?_)
      refine bodyPost_ret (results_tmp Try.results12 _ _ _) rfl ⟨?_, E⟩
      show Ending.returned (.float .f64 0) = _
      simp [cln, e0, e1] <;> rfl
    · skip
      by_cases e2 : key F1 < key x
      · skip
        have E : Below w.heap.size w w := Below.refl _ _
        go_enter Try.func12, Try.ntmps12
        refine wq fun Q hQ => ?_
        refine sg (.float .f64 0) 2 rfl rfl rfl rfl ?_
        simp only [zp]
        refine st_end ?_
        subst hQ
        refine wp_seq ?_
        refine wq fun Q hQ => ?_
        refine sm (.float .f64 x) 3 rfl rfl rfl rfl ?_
        simp only [zp]
        refine sv (.bool true) 4 rfl rfl (ex_bin rfl rfl rfl (egF _ _ _ _ _ _) (gtrF _ (is_gt e0 N0 (decide_eq_true (by rw [key_zero]; omega))))) ?_
        simp only [zp]
        refine sv (.bool false) 5 rfl rfl (ex_not rfl rfl rfl) ?_
        simp only [zp]
        refine st_end ?_
        subst hQ
        refine wp_cond_false rfl ?_
        refine wp_skip ?_
        refine wp_seq ?_
        refine wq fun Q hQ => ?_
        refine sm (.float .f64 x) 6 rfl rfl rfl rfl ?_
        simp only [zp]
        refine sv (.bool true) 7 rfl rfl (ex_bin rfl rfl rfl (egF _ _ _ _ _ _) (gtrF _ (is_gt e0 N1 (decide_eq_true e2)))) ?_
        simp only [zp]
        refine st_end ?_
        subst hQ
        refine wp_cond_true rfl ?_
        refine wq fun Q hQ => ?_
        refine sg (.float .f64 4607182418800017408) 2 rfl rfl rfl rfl ?_
        simp only [zp]
        refine st_end ?_
        subst hQ
        refine wp_ret ?_
        repeat (first | refine ret_out ?_ | refine ret_blk ?_)
        refine bodyPost_ret (results_tmp Try.results12 _ _ _) rfl ⟨?_, E⟩
        show Ending.returned (.float .f64 4607182418800017408) = _
        simp [cln, e0, e1, e2] <;> rfl
      · skip
        have E : Below w.heap.size w w := Below.refl _ _
        go_enter Try.func12, Try.ntmps12
        refine wq fun Q hQ => ?_
        refine sg (.float .f64 0) 2 rfl rfl rfl rfl ?_
        simp only [zp]
        refine st_end ?_
        subst hQ
        refine wp_seq ?_
        refine wq fun Q hQ => ?_
        refine sm (.float .f64 x) 3 rfl rfl rfl rfl ?_
        simp only [zp]
        refine sv (.bool true) 4 rfl rfl (ex_bin rfl rfl rfl (egF _ _ _ _ _ _) (gtrF _ (is_gt e0 N0 (decide_eq_true (by rw [key_zero]; omega))))) ?_
        simp only [zp]
        refine sv (.bool false) 5 rfl rfl (ex_not rfl rfl rfl) ?_
        simp only [zp]
        refine st_end ?_
        subst hQ
        refine wp_cond_false rfl ?_
        refine wp_skip ?_
        refine wp_seq ?_
        refine wq fun Q hQ => ?_
        refine sm (.float .f64 x) 6 rfl rfl rfl rfl ?_
        simp only [zp]
        refine sv (.bool false) 7 rfl rfl (ex_bin rfl rfl rfl (egF _ _ _ _ _ _) (gtrF _ (is_gt e0 N1 (decide_eq_false e2)))) ?_
        simp only [zp]
        refine st_end ?_
        subst hQ
        refine wp_cond_false rfl ?_
        refine wp_skip ?_
        refine wq fun Q hQ => ?_
        refine sm (.float .f64 x) 8 rfl rfl rfl rfl ?_
        simp only [zp]
        refine sg (.float .f64 x) 2 rfl rfl rfl rfl ?_
        simp only [zp]
        refine st_end ?_
        subst hQ
        refine wp_ret ?_
        repeat (first | refine ret_out ?_ | refine ret_blk ?_)
        refine bodyPost_ret (results_tmp Try.results12 _ _ _) rfl ⟨?_, E⟩
        show Ending.returned (.float .f64 x) = _
        simp [cln, e0, e1, e2] <;> rfl
set_option maxHeartbeats 4000000 in
theorem rweight_any (a : Int) (w : World) (ha : a ≤ 9223372036854775807) : Calls Try.prog 14 #[.int .i64 a] w fun e w' => e = .returned (.float .f64 (wt a)) ∧ Below w.heap.size w w' := by
  by_cases e0 : a < 0
  · skip
    have E : Below w.heap.size w w := Below.refl _ _
    go_enter Try.func14, Try.ntmps14
    refine wq fun Q hQ => ?_
    refine sg (.float .f64 0) 2 rfl rfl rfl rfl ?_
    simp only [zp]
    refine st_end ?_
    subst hQ
    refine wp_seq ?_
    refine wq fun Q hQ => ?_
    refine sm (.int .i64 a) 7 rfl rfl rfl rfl ?_
    simp only [zp]
    refine sv (.bool true) 8 rfl rfl (ex_bin (u := (.int .i64 a)) (r := (.int .i64 0)) rfl rfl rfl (eg3 _ _ _ _ _ _) (lss3 _ (decide_eq_true (by omega)))) ?_
    simp only [zp]
    refine st_end ?_
    subst hQ
    refine wp_cond_true rfl ?_
    refine wq fun Q hQ => ?_
    refine sg (.float .f64 4607182418800017408) 2 rfl rfl rfl rfl ?_
    simp only [zp]
    refine st_end ?_
    subst hQ
    refine wp_ret ?_
    repeat (first | refine ret_out ?_ | refine ret_blk ?_)
    refine bodyPost_ret (results_tmp Try.results14 _ _ _) rfl ⟨?_, E⟩
    show Ending.returned (.float .f64 4607182418800017408) = _
    simp [wt, F1, e0]
  · skip
    by_cases e1 : 64 < a / 64
    · skip
      have E : Below w.heap.size w w := Below.refl _ _
      go_enter Try.func14, Try.ntmps14
      refine wq fun Q hQ => ?_
      refine sg (.float .f64 0) 2 rfl rfl rfl rfl ?_
      simp only [zp]
      refine st_end ?_
      subst hQ
      refine wp_seq ?_
      refine wq fun Q hQ => ?_
      refine sm (.int .i64 a) 7 rfl rfl rfl rfl ?_
      simp only [zp]
      refine sv (.bool false) 8 rfl rfl (ex_bin (u := (.int .i64 a)) (r := (.int .i64 0)) rfl rfl rfl (eg3 _ _ _ _ _ _) (lss3 _ (decide_eq_false (by omega)))) ?_
      simp only [zp]
      refine st_end ?_
      subst hQ
      refine wp_cond_false rfl ?_
      refine wp_skip ?_
      refine wq fun Q hQ => ?_
      refine sm (.int .i64 a) 9 rfl rfl rfl rfl ?_
      simp only [zp]
      refine sv (.int .i64 (a / 64)) 10 rfl rfl (ex_bin rfl rfl rfl (eg3 _ _ _ _ _ _) (quo3 _ (by omega) ha rfl)) ?_
      simp only [zp]
      refine sm (.int .i64 a) 11 rfl rfl rfl rfl ?_
      simp only [zp]
      refine sv (.int .i64 (a % 64)) 12 rfl rfl (ex_bin rfl rfl rfl (eg3 _ _ _ _ _ _) (rem3 _ (by omega) ha rfl)) ?_
      simp only [zp]
      refine sg (.int .i64 (a / 64)) 3 rfl rfl rfl rfl ?_
      simp only [zp]
      refine sg (.int .i64 (a % 64)) 4 rfl rfl rfl rfl ?_
      simp only [zp]
      refine st_end ?_
      subst hQ
      refine wp_seq ?_
      refine wq fun Q hQ => ?_
      refine sm (.int .i64 (a / 64)) 13 rfl rfl rfl rfl ?_
      simp only [zp]
      refine sv (.bool true) 14 rfl rfl (ex_bin (u := (.int .i64 (a / 64))) (r := (.int .i64 64)) rfl rfl rfl (eg3 _ _ _ _ _ _) (gtr3 _ (decide_eq_true (by omega)))) ?_
      simp only [zp]
      refine st_end ?_
      subst hQ
      refine wp_cond_true rfl ?_
      refine wq fun Q hQ => ?_
      refine sg (.float .f64 0) 2 rfl rfl rfl rfl ?_
      simp only [zp]
      refine st_end ?_
      subst hQ
      refine wp_ret ?_
      repeat (first | refine ret_out ?_ | refine ret_blk ?_)
      refine bodyPost_ret (results_tmp Try.results14 _ _ _) rfl ⟨?_, E⟩
      show Ending.returned (.float .f64 0) = _
      simp [wt, F1, e0, e1]
    · skip
      have E : Below w.heap.size w w := Below.refl _ _
      go_enter Try.func14, Try.ntmps14
      refine wq fun Q hQ => ?_
      refine sg (.float .f64 0) 2 rfl rfl rfl rfl ?_
      simp only [zp]
      refine st_end ?_
      subst hQ
      refine wp_seq ?_
      refine wq fun Q hQ => ?_
      refine sm (.int .i64 a) 7 rfl rfl rfl rfl ?_
      simp only [zp]
      refine sv (.bool false) 8 rfl rfl (ex_bin (u := (.int .i64 a)) (r := (.int .i64 0)) rfl rfl rfl (eg3 _ _ _ _ _ _) (lss3 _ (decide_eq_false (by omega)))) ?_
      simp only [zp]
      refine st_end ?_
      subst hQ
      refine wp_cond_false rfl ?_
      refine wp_skip ?_
      refine wq fun Q hQ => ?_
      refine sm (.int .i64 a) 9 rfl rfl rfl rfl ?_
      simp only [zp]
      refine sv (.int .i64 (a / 64)) 10 rfl rfl (ex_bin rfl rfl rfl (eg3 _ _ _ _ _ _) (quo3 _ (by omega) ha rfl)) ?_
      simp only [zp]
      refine sm (.int .i64 a) 11 rfl rfl rfl rfl ?_
      simp only [zp]
      refine sv (.int .i64 (a % 64)) 12 rfl rfl (ex_bin rfl rfl rfl (eg3 _ _ _ _ _ _) (rem3 _ (by omega) ha rfl)) ?_
      simp only [zp]
      refine sg (.int .i64 (a / 64)) 3 rfl rfl rfl rfl ?_
      simp only [zp]
      refine sg (.int .i64 (a % 64)) 4 rfl rfl rfl rfl ?_
      simp only [zp]
      refine st_end ?_
      subst hQ
      refine wp_seq ?_
      refine wq fun Q hQ => ?_
      refine sm (.int .i64 (a / 64)) 13 rfl rfl rfl rfl ?_
      simp only [zp]
      refine sv (.bool false) 14 rfl rfl (ex_bin (u := (.int .i64 (a / 64))) (r := (.int .i64 64)) rfl rfl rfl (eg3 _ _ _ _ _ _) (gtr3 _ (decide_eq_false (by omega)))) ?_
      simp only [zp]
      refine st_end ?_
      subst hQ
      refine wp_cond_false rfl ?_
      refine wp_skip ?_
      refine wq fun Q hQ => ?_
      refine sg (.float .f64 4607182418800017408) 5 rfl rfl rfl rfl ?_
      simp only [zp]
      refine st_end ?_
      subst hQ
      refine wp_seq ?_
      refine wq fun Q hQ => ?_
      refine sg (.int .i64 0) 6 rfl rfl rfl rfl ?_
      simp only [zp]
      refine st_end ?_
      subst hQ
      refine wp_block ?_
      have hq : ∃ q : Nat, a / 64 = (q : Int) ∧ q ≤ 64 := ⟨(a / 64).toNat, by omega, by omega⟩
      obtain ⟨q, hq, hq2⟩ := hq
      have hr : ∃ r : Nat, a % 64 = (r : Int) ∧ r < 64 := ⟨(a % 64).toNat, by omega, by omega⟩
      obtain ⟨r, hr, hr2⟩ := hr
      have ew : wt a = wtW q r := by unfold wt; rw [if_neg (by omega), if_neg (by omega), hq, hr]; rfl
      rw [hq, hr, ew]
      go_loopw [5, 6] (fun v5 v6 wr => ∃ i : Nat, i ≤ q ∧ v6 = .int .i64 i ∧ v5 = .float .f64 (hf i) ∧ Below w.heap.size w wr) (fun _ v6 _ => q - (intOf v6).toNat)
      case atStart => exact ⟨0, Nat.zero_le _, rfl, rfl, E⟩
      case round =>
        obtain ⟨i, hi, rfl, rfl, E⟩ := hrel
        by_cases hlt : i < q
        · skip
          refine wp_seq ?_
          refine wq fun Q hQ => ?_
          refine sm (.int .i64 (i : Nat)) 15 rfl rfl rfl rfl ?_
          simp only [zp]
          refine sm (.int .i64 (q : Nat)) 16 rfl rfl rfl rfl ?_
          simp only [zp]
          refine sv (.bool true) 17 rfl rfl (ex_bin (u := (.int .i64 (i : Nat))) (r := (.int .i64 (q : Nat))) rfl rfl rfl (eg3 _ _ _ _ _ _) (lss3 _ (decide_eq_true (by omega)))) ?_
          simp only [zp]
          refine st_end ?_
          subst hQ
          refine wp_cond_true rfl ?_
          refine wp_skip ?_
          refine wp_seq ?_
          refine wp_block ?_
          refine wl_in (wl_cap fun Q hQ => ?_)
          refine sm (.float .f64 (hf i)) 20 rfl rfl rfl rfl ?_
          simp only [zp]
          refine sv (.float .f64 (hf (i + 1))) 21 rfl rfl (ex_bin rfl rfl rfl (egF _ _ _ _ _ _) (fdiv_run _ (half_step i (by omega)))) ?_
          simp only [zp]
          refine sg (.float .f64 (hf (i + 1))) 5 rfl rfl rfl rfl ?_
          simp only [zp]
          refine st_end ?_
          subst hQ
          refine wl_in (wl_cap fun Q hQ => ?_)
          refine sm (.int .i64 (i : Nat)) 18 rfl rfl rfl rfl ?_
          simp only [zp]
          refine sv (.int .i64 ((i + 1 : Nat) : Int)) 19 rfl rfl (ex_bin rfl rfl rfl (eg3 _ _ _ _ _ _) (add3 _ (by omega) (by omega))) ?_
          simp only [zp]
          refine sg (.int .i64 ((i + 1 : Nat) : Int)) 6 rfl rfl rfl rfl ?_
          simp only [zp]
          refine st_end ?_
          subst hQ
          refine then_go ?_
          go_roundw
          case rel => exact ⟨i + 1, by omega, rfl, rfl, E⟩
          case measure => simp [intOf]; omega
        · have hin : i = q := by omega
          subst i
          obtain ⟨za, zb, z1, z2, z3⟩ := wt_parts q r hq2 hr2
          refine wp_seq ?_
          refine wq fun Q hQ => ?_
          refine sm (.int .i64 (q : Nat)) 15 rfl rfl rfl rfl ?_
          simp only [zp]
          refine sm (.int .i64 (q : Nat)) 16 rfl rfl rfl rfl ?_
          simp only [zp]
          refine sv (.bool false) 17 rfl rfl (ex_bin (u := (.int .i64 (q : Nat))) (r := (.int .i64 (q : Nat))) rfl rfl rfl (eg3 _ _ _ _ _ _) (lss3 _ (decide_eq_false (by omega)))) ?_
          simp only [zp]
          refine st_end ?_
          subst hQ
          refine wp_cond_false rfl ?_
          refine wp_exit ?_
          refine ex_then ?_
          refine ex_then ?_
          refine ex_blk ?_
          refine wq fun Q hQ => ?_
          refine sm (.float .f64 (hf q)) 22 rfl rfl rfl rfl ?_
          simp only [zp]
          refine sm (.int .i64 (r : Nat)) 23 rfl rfl rfl rfl ?_
          simp only [zp]
          refine sv (.float .f64 (FloatKind.f64.nearest (r : Nat))) 24 rfl rfl (ex_cvt rfl rfl) ?_
          simp only [zp]
          refine sv (.float .f64 za) 25 rfl rfl (ex_bin rfl rfl rfl (egF _ _ _ _ _ _) (fdiv_run _ (z1))) ?_
          simp only [zp]
          refine sv (.float .f64 zb) 26 rfl rfl (ex_bin rfl rfl rfl (egF _ _ _ _ _ _) (fsub_run _ (z2))) ?_
          simp only [zp]
          refine sv (.float .f64 (wtW q r)) 27 rfl rfl (ex_bin rfl rfl rfl (egF _ _ _ _ _ _) (fmul_run _ (z3))) ?_
          simp only [zp]
          refine sg (.float .f64 (wtW q r)) 2 rfl rfl rfl rfl ?_
          simp only [zp]
          refine st_end ?_
          subst hQ
          refine wp_ret ?_
          repeat (first | refine ret_out ?_ | refine ret_blk ?_)
          exact bodyPost_ret (results_tmp Try.results14 _ _ _) rfl ⟨rfl, E⟩
set_option maxHeartbeats 2000000 in
theorem rguess_any (a c : Int) (w : World) (hc : c ≤ 9223372036854775807) : Calls Try.prog 16 #[.int .i64 a, .int .i64 c] w fun e w' => e = .returned (.float .f64 (gs a c)) ∧ Below w.heap.size w w' := by
  by_cases e0 : a < 0
  · skip
    have E : Below w.heap.size w w := Below.refl _ _
    go_enter Try.func16, Try.ntmps16
    refine wq fun Q hQ => ?_
    refine sg (.float .f64 0) 4 rfl rfl rfl rfl ?_
    simp only [zp]
    refine st_end ?_
    subst hQ
    refine wp_seq ?_
    refine wq fun Q hQ => ?_
    refine sm (.int .i64 a) 6 rfl rfl rfl rfl ?_
    simp only [zp]
    refine sv (.bool true) 7 rfl rfl (ex_bin (u := (.int .i64 a)) (r := (.int .i64 0)) rfl rfl rfl (eg3 _ _ _ _ _ _) (lss3 _ (decide_eq_true (by omega)))) ?_
    simp only [zp]
    refine sm (.bool true) 8 rfl rfl rfl rfl ?_
    simp only [zp]
    refine sn 9 rfl rfl ?_
    simp only [zp]
    refine sn 10 rfl rfl ?_
    simp only [zp]
    refine sn 11 rfl rfl ?_
    simp only [zp]
    refine sv (.bool true) 12 rfl rfl (ex_pkT rfl rfl rfl) ?_
    simp only [zp]
    refine st_end ?_
    subst hQ
    refine wp_cond_true rfl ?_
    refine wq fun Q hQ => ?_
    refine sg (.float .f64 0) 4 rfl rfl rfl rfl ?_
    simp only [zp]
    refine st_end ?_
    subst hQ
    refine wp_ret ?_
    repeat (first | refine ret_out ?_ | refine ret_blk ?_)
    refine bodyPost_ret (results_tmp Try.results16 _ _ _) rfl ⟨?_, E⟩
    unfold gs
    rw [if_pos (by omega)]
    rfl
  · skip
    by_cases e1 : c < a
    · skip
      have E : Below w.heap.size w w := Below.refl _ _
      go_enter Try.func16, Try.ntmps16
      refine wq fun Q hQ => ?_
      refine sg (.float .f64 0) 4 rfl rfl rfl rfl ?_
      simp only [zp]
      refine st_end ?_
      subst hQ
      refine wp_seq ?_
      refine wq fun Q hQ => ?_
      refine sm (.int .i64 a) 6 rfl rfl rfl rfl ?_
      simp only [zp]
      refine sv (.bool false) 7 rfl rfl (ex_bin (u := (.int .i64 a)) (r := (.int .i64 0)) rfl rfl rfl (eg3 _ _ _ _ _ _) (lss3 _ (decide_eq_false (by omega)))) ?_
      simp only [zp]
      refine sm (.bool false) 8 rfl rfl rfl rfl ?_
      simp only [zp]
      refine sm (.int .i64 c) 9 rfl rfl rfl rfl ?_
      simp only [zp]
      refine sm (.int .i64 a) 10 rfl rfl rfl rfl ?_
      simp only [zp]
      refine sv (.bool true) 11 rfl rfl (ex_bin (u := (.int .i64 c)) (r := (.int .i64 a)) rfl rfl rfl (eg3 _ _ _ _ _ _) (lss3 _ (decide_eq_true (by omega)))) ?_
      simp only [zp]
      refine sv (.bool true) 12 rfl rfl (ex_pkF rfl rfl rfl) ?_
      simp only [zp]
      refine st_end ?_
      subst hQ
      refine wp_cond_true rfl ?_
      refine wq fun Q hQ => ?_
      refine sg (.float .f64 0) 4 rfl rfl rfl rfl ?_
      simp only [zp]
      refine st_end ?_
      subst hQ
      refine wp_ret ?_
      repeat (first | refine ret_out ?_ | refine ret_blk ?_)
      refine bodyPost_ret (results_tmp Try.results16 _ _ _) rfl ⟨?_, E⟩
      unfold gs
      rw [if_pos (by omega)]
      rfl
    · skip
      have G := gs_facts (a := a) (c := c) (by omega) (by omega) hc
      have E : Below w.heap.size w w := Below.refl _ _
      go_enter Try.func16, Try.ntmps16
      refine wq fun Q hQ => ?_
      refine sg (.float .f64 0) 4 rfl rfl rfl rfl ?_
      simp only [zp]
      refine st_end ?_
      subst hQ
      refine wp_seq ?_
      refine wq fun Q hQ => ?_
      refine sm (.int .i64 a) 6 rfl rfl rfl rfl ?_
      simp only [zp]
      refine sv (.bool false) 7 rfl rfl (ex_bin (u := (.int .i64 a)) (r := (.int .i64 0)) rfl rfl rfl (eg3 _ _ _ _ _ _) (lss3 _ (decide_eq_false (by omega)))) ?_
      simp only [zp]
      refine sm (.bool false) 8 rfl rfl rfl rfl ?_
      simp only [zp]
      refine sm (.int .i64 c) 9 rfl rfl rfl rfl ?_
      simp only [zp]
      refine sm (.int .i64 a) 10 rfl rfl rfl rfl ?_
      simp only [zp]
      refine sv (.bool false) 11 rfl rfl (ex_bin (u := (.int .i64 c)) (r := (.int .i64 a)) rfl rfl rfl (eg3 _ _ _ _ _ _) (lss3 _ (decide_eq_false (by omega)))) ?_
      simp only [zp]
      refine sv (.bool false) 12 rfl rfl (ex_pkF rfl rfl rfl) ?_
      simp only [zp]
      refine st_end ?_
      subst hQ
      refine wp_cond_false rfl ?_
      refine wp_skip ?_
      refine wq fun Q hQ => ?_
      refine sm (.int .i64 c) 13 rfl rfl rfl rfl ?_
      simp only [zp]
      refine sv (.float .f64 (i2f c)) 14 rfl rfl (ex_cvt rfl rfl) ?_
      simp only [zp]
      refine sv (.float .f64 (fadd (i2f c) F1)) 15 rfl rfl (ex_bin rfl rfl rfl (egF _ _ _ _ _ _) (fadd_run _ (G.1))) ?_
      simp only [zp]
      refine sg (.float .f64 (fadd (i2f c) F1)) 5 rfl rfl rfl rfl ?_
      simp only [zp]
      refine st_end ?_
      subst hQ
      refine wq fun Q hQ => ?_
      refine sm (.float .f64 (fadd (i2f c) F1)) 16 rfl rfl rfl rfl ?_
      simp only [zp]
      refine sm (.int .i64 a) 17 rfl rfl rfl rfl ?_
      simp only [zp]
      refine sv (.float .f64 (i2f a)) 18 rfl rfl (ex_cvt rfl rfl) ?_
      simp only [zp]
      refine sv (.float .f64 (fsub (fadd (i2f c) F1) (i2f a))) 19 rfl rfl (ex_bin rfl rfl rfl (egF _ _ _ _ _ _) (fsub_run _ (G.2.1))) ?_
      simp only [zp]
      refine sm (.float .f64 (fadd (i2f c) F1)) 20 rfl rfl rfl rfl ?_
      simp only [zp]
      refine sv (.float .f64 (fdiv (fsub (fadd (i2f c) F1) (i2f a)) (fadd (i2f c) F1))) 21 rfl rfl (ex_bin rfl rfl rfl (egF _ _ _ _ _ _) (fdiv_run _ (G.2.2.1))) ?_
      simp only [zp]
      refine sg (.float .f64 (fdiv (fsub (fadd (i2f c) F1) (i2f a)) (fadd (i2f c) F1))) 4 rfl rfl rfl rfl ?_
      simp only [zp]
      refine st_end ?_
      subst hQ
      refine wp_ret ?_
      repeat (first | refine ret_out ?_ | refine ret_blk ?_)
      refine bodyPost_ret (results_tmp Try.results16 _ _ _) rfl ⟨?_, E⟩
      unfold gs
      rw [if_neg (by omega)]
      rfl
set_option maxHeartbeats 2000000 in
theorem rage_any (x y : Int) (w : World) (x1 : -9223372036854775808 ≤ x) (x2 : x ≤ 9223372036854775807) (y1 : -9223372036854775808 ≤ y) (y2 : y ≤ 9223372036854775807) : Calls Try.prog 33 #[.int .i64 x, .int .i64 y] w fun e w' => e = .returned (.int .i64 (ageN x y)) ∧ Below w.heap.size w w' := by
  have hw := IntKind.wrap_i64 (x - y)
  by_cases e0 : x < y
  · skip
    have E : Below w.heap.size w w := Below.refl _ _
    go_enter Try.func33, Try.ntmps33
    refine wq fun Q hQ => ?_
    refine sg (.int .i64 0) 4 rfl rfl rfl rfl ?_
    simp only [zp]
    refine st_end ?_
    subst hQ
    refine wq fun Q hQ => ?_
    refine sm (.int .i64 x) 6 rfl rfl rfl rfl ?_
    simp only [zp]
    refine sm (.int .i64 y) 7 rfl rfl rfl rfl ?_
    simp only [zp]
    refine sv (.int .i64 (IntKind.i64.wrap (x - y))) 8 rfl rfl (ex_bin rfl rfl rfl (eg3 _ _ _ _ _ _) (sub3w _)) ?_
    simp only [zp]
    refine sg (.int .i64 (IntKind.i64.wrap (x - y))) 5 rfl rfl rfl rfl ?_
    simp only [zp]
    refine st_end ?_
    subst hQ
    refine wp_seq ?_
    refine wq fun Q hQ => ?_
    refine sm (.int .i64 x) 9 rfl rfl rfl rfl ?_
    simp only [zp]
    refine sm (.int .i64 y) 10 rfl rfl rfl rfl ?_
    simp only [zp]
    refine sv (.bool true) 11 rfl rfl (ex_bin (u := (.int .i64 x)) (r := (.int .i64 y)) rfl rfl rfl (eg3 _ _ _ _ _ _) (lss3 _ (decide_eq_true (by omega)))) ?_
    simp only [zp]
    refine st_end ?_
    subst hQ
    refine wp_cond_true rfl ?_
    refine wq fun Q hQ => ?_
    refine sg (.int .i64 0) 4 rfl rfl rfl rfl ?_
    simp only [zp]
    refine st_end ?_
    subst hQ
    refine wp_ret ?_
    repeat (first | refine ret_out ?_ | refine ret_blk ?_)
    refine bodyPost_ret (results_tmp Try.results33 _ _ _) rfl ⟨?_, E⟩
    unfold ageN
    rw [if_pos e0]
    rfl
  · skip
    by_cases e1 : 9223372036854775807 < x - y
    · skip
      have E : Below w.heap.size w w := Below.refl _ _
      go_enter Try.func33, Try.ntmps33
      refine wq fun Q hQ => ?_
      refine sg (.int .i64 0) 4 rfl rfl rfl rfl ?_
      simp only [zp]
      refine st_end ?_
      subst hQ
      refine wq fun Q hQ => ?_
      refine sm (.int .i64 x) 6 rfl rfl rfl rfl ?_
      simp only [zp]
      refine sm (.int .i64 y) 7 rfl rfl rfl rfl ?_
      simp only [zp]
      refine sv (.int .i64 (IntKind.i64.wrap (x - y))) 8 rfl rfl (ex_bin rfl rfl rfl (eg3 _ _ _ _ _ _) (sub3w _)) ?_
      simp only [zp]
      refine sg (.int .i64 (IntKind.i64.wrap (x - y))) 5 rfl rfl rfl rfl ?_
      simp only [zp]
      refine st_end ?_
      subst hQ
      refine wp_seq ?_
      refine wq fun Q hQ => ?_
      refine sm (.int .i64 x) 9 rfl rfl rfl rfl ?_
      simp only [zp]
      refine sm (.int .i64 y) 10 rfl rfl rfl rfl ?_
      simp only [zp]
      refine sv (.bool false) 11 rfl rfl (ex_bin (u := (.int .i64 x)) (r := (.int .i64 y)) rfl rfl rfl (eg3 _ _ _ _ _ _) (lss3 _ (decide_eq_false (by omega)))) ?_
      simp only [zp]
      refine st_end ?_
      subst hQ
      refine wp_cond_false rfl ?_
      refine wp_skip ?_
      refine wp_seq ?_
      refine wq fun Q hQ => ?_
      refine sm (.int .i64 (IntKind.i64.wrap (x - y))) 12 rfl rfl rfl rfl ?_
      simp only [zp]
      refine sv (.bool true) 13 rfl rfl (ex_bin (u := (.int .i64 (IntKind.i64.wrap (x - y)))) (r := (.int .i64 0)) rfl rfl rfl (eg3 _ _ _ _ _ _) (lss3 _ (decide_eq_true (by omega)))) ?_
      simp only [zp]
      refine st_end ?_
      subst hQ
      refine wp_cond_true rfl ?_
      refine wq fun Q hQ => ?_
      refine sg (.int .i64 2147483647) 4 rfl rfl rfl rfl ?_
      simp only [zp]
      refine st_end ?_
      subst hQ
      refine wp_ret ?_
      repeat (first | refine ret_out ?_ | refine ret_blk ?_)
      refine bodyPost_ret (results_tmp Try.results33 _ _ _) rfl ⟨?_, E⟩
      unfold ageN
      rw [if_neg e0, if_pos e1]
      rfl
    · skip
      have E : Below w.heap.size w w := Below.refl _ _
      go_enter Try.func33, Try.ntmps33
      refine wq fun Q hQ => ?_
      refine sg (.int .i64 0) 4 rfl rfl rfl rfl ?_
      simp only [zp]
      refine st_end ?_
      subst hQ
      refine wq fun Q hQ => ?_
      refine sm (.int .i64 x) 6 rfl rfl rfl rfl ?_
      simp only [zp]
      refine sm (.int .i64 y) 7 rfl rfl rfl rfl ?_
      simp only [zp]
      refine sv (.int .i64 (IntKind.i64.wrap (x - y))) 8 rfl rfl (ex_bin rfl rfl rfl (eg3 _ _ _ _ _ _) (sub3w _)) ?_
      simp only [zp]
      refine sg (.int .i64 (IntKind.i64.wrap (x - y))) 5 rfl rfl rfl rfl ?_
      simp only [zp]
      refine st_end ?_
      subst hQ
      refine wp_seq ?_
      refine wq fun Q hQ => ?_
      refine sm (.int .i64 x) 9 rfl rfl rfl rfl ?_
      simp only [zp]
      refine sm (.int .i64 y) 10 rfl rfl rfl rfl ?_
      simp only [zp]
      refine sv (.bool false) 11 rfl rfl (ex_bin (u := (.int .i64 x)) (r := (.int .i64 y)) rfl rfl rfl (eg3 _ _ _ _ _ _) (lss3 _ (decide_eq_false (by omega)))) ?_
      simp only [zp]
      refine st_end ?_
      subst hQ
      refine wp_cond_false rfl ?_
      refine wp_skip ?_
      refine wp_seq ?_
      refine wq fun Q hQ => ?_
      refine sm (.int .i64 (IntKind.i64.wrap (x - y))) 12 rfl rfl rfl rfl ?_
      simp only [zp]
      refine sv (.bool false) 13 rfl rfl (ex_bin (u := (.int .i64 (IntKind.i64.wrap (x - y)))) (r := (.int .i64 0)) rfl rfl rfl (eg3 _ _ _ _ _ _) (lss3 _ (decide_eq_false (by omega)))) ?_
      simp only [zp]
      refine st_end ?_
      subst hQ
      refine wp_cond_false rfl ?_
      refine wp_skip ?_
      refine wq fun Q hQ => ?_
      refine sm (.int .i64 (IntKind.i64.wrap (x - y))) 14 rfl rfl rfl rfl ?_
      simp only [zp]
      refine sg (.int .i64 (IntKind.i64.wrap (x - y))) 4 rfl rfl rfl rfl ?_
      simp only [zp]
      refine st_end ?_
      subst hQ
      refine wp_ret ?_
      repeat (first | refine ret_out ?_ | refine ret_blk ?_)
      refine bodyPost_ret (results_tmp Try.results33 _ _ _) rfl ⟨?_, E⟩
      unfold ageN
      rw [if_neg e0, if_neg e1]
      have hh : IntKind.i64.wrap (x - y) = x - y := by omega
      show Ending.returned (.int .i64 (IntKind.i64.wrap (x - y))) = _
      rw [hh]
end Go.Proofs.Ytjmdcgfhblgehaa
