/- Score: Clean, Weight, Guess, Cost, Less, Join; what must come of every program. -/
import Derived.Test.YtjmdcgfhblgehabSOps
import Derived.Test.YtjmdcgfhblgehabFltP
namespace Go.Proofs.Ytjmdcgfhblgehab
open Go.RowKit
set_option linter.unusedVariables false
set_option linter.unusedSimpArgs false
set_option maxRecDepth 100000

theorem quo3 {x z : Int} (W : World) (hx : 0 ≤ x) (hx2 : x ≤ 9223372036854775807) (hz : x / 64 = z) : (binOp .quo 3 (.int .i64 x) (.int .i64 64)).run Try.prog W = .ok (.int .i64 z) W := by
  subst hz
  have h1 : Int.tdiv x 64 = x / 64 := Int.tdiv_eq_ediv_of_nonneg hx
  have h2 := IntKind.wrap_i64 (x / 64)
  go_simp
  all_goals omega
theorem rem3 {x z : Int} (W : World) (hx : 0 ≤ x) (hx2 : x ≤ 9223372036854775807) (hz : x % 64 = z) : (binOp .rem 3 (.int .i64 x) (.int .i64 64)).run Try.prog W = .ok (.int .i64 z) W := by
  subst hz
  have h1 : Int.tmod x 64 = x % 64 := Int.tmod_eq_emod_of_nonneg hx
  have h2 := IntKind.wrap_i64 (x % 64)
  go_simp
  all_goals omega
theorem sub3w {x y : Int} (W : World) : (binOp .sub 3 (.int .i64 x) (.int .i64 y)).run Try.prog W = .ok (.int .i64 (IntKind.i64.wrap (x - y))) W := by go_simp

theorem nan_any (w : World) : Calls Try.prog 14 #[] w fun e w' => e = .returned (.float .f64 9221120237041090561) ∧ Below w.heap.size w w' := by
  have E : Below w.heap.size w w := Below.refl _ _
  go_enter Try.func14, Try.ntmps14
  refine wq fun Q hQ => ?_
  refine sg (.float .f64 0) 0 rfl rfl rfl rfl ?_
  simp only [zp]
  refine st_end ?_
  subst hQ
  refine wq fun Q hQ => ?_
  refine sv (.float .f64 9221120237041090561) 1 rfl rfl (ex_ext1 rfl rfl (call_frombits 9221120237041090561 _)) ?_
  simp only [zp]
  refine sg (.float .f64 9221120237041090561) 0 rfl rfl rfl rfl ?_
  simp only [zp]
  refine st_end ?_
  subst hQ
  refine wp_ret ?_
  repeat (first | refine ret_out ?_ | refine ret_blk ?_)
  exact bodyPost_ret (results_tmp Try.results14 _ _ _) rfl ⟨rfl, E⟩
theorem inf_any (w : World) : Calls Try.prog 9 #[.int .i64 1] w fun e w' => e = .returned (.float .f64 9218868437227405312) ∧ Below w.heap.size w w' := by
  have E : Below w.heap.size w w := Below.refl _ _
  go_enter Try.func9, Try.ntmps9
  refine wq fun Q hQ => ?_
  refine sg (.float .f64 0) 2 rfl rfl rfl rfl ?_
  simp only [zp]
  refine st_end ?_
  subst hQ
  refine wq fun Q hQ => ?_
  refine sg (.int .u64 0) 3 rfl rfl rfl rfl ?_
  simp only [zp]
  refine st_end ?_
  subst hQ
  refine wp_seq ?_
  refine wq fun Q hQ => ?_
  refine sm (.int .i64 1) 4 rfl rfl rfl rfl ?_
  simp only [zp]
  refine sv (.bool true) 5 rfl rfl (ex_bin (u := (.int .i64 1)) (r := (.int .i64 0)) rfl rfl rfl (eg3 _ _ _ _ _ _) (geq3 _ (by decide))) ?_
  simp only [zp]
  refine st_end ?_
  subst hQ
  refine wp_cond_true rfl ?_
  refine wl_in (wl_cap fun Q hQ => ?_)
  refine sg (.int .u64 9218868437227405312) 3 rfl rfl rfl rfl ?_
  simp only [zp]
  refine st_end ?_
  subst hQ
  refine wq fun Q hQ => ?_
  refine sm (.int .u64 9218868437227405312) 6 rfl rfl rfl rfl ?_
  simp only [zp]
  refine sv (.float .f64 9218868437227405312) 7 rfl rfl (ex_ext1 rfl rfl (call_frombits 9218868437227405312 _)) ?_
  simp only [zp]
  refine sg (.float .f64 9218868437227405312) 2 rfl rfl rfl rfl ?_
  simp only [zp]
  refine st_end ?_
  subst hQ
  refine wp_ret ?_
  repeat (first | refine ret_out ?_ | refine ret_blk ?_)
  exact bodyPost_ret (results_tmp Try.results9 _ _ _) rfl ⟨rfl, E⟩
theorem isinf_any (x : Nat) (w : World) (hx : x < 18446744073709551616) {c : Bool} (hc : (x == 9218868437227405312) = c) : Calls Try.prog 12 #[.float .f64 x, .int .i64 1] w fun e w' => e = .returned (.bool c) ∧ Below w.heap.size w w' := by
  have E : Below w.heap.size w w := Below.refl _ _
  go_enter Try.func12, Try.ntmps12
  refine wq fun Q hQ => ?_
  refine sg (.bool false) 4 rfl rfl rfl rfl ?_
  simp only [zp]
  refine st_end ?_
  subst hQ
  refine wp_seq ?_
  refine wq fun Q hQ => ?_
  refine sm (.int .i64 1) 5 rfl rfl rfl rfl ?_
  simp only [zp]
  refine sv (.bool false) 6 rfl rfl (ex_bin (u := (.int .i64 1)) (r := (.int .i64 0)) rfl rfl rfl (eg3 _ _ _ _ _ _) (eql3 _ (by decide))) ?_
  simp only [zp]
  refine st_end ?_
  subst hQ
  refine wp_cond_false rfl ?_
  refine wq fun Q hQ => ?_
  refine sm (.int .i64 1) 9 rfl rfl rfl rfl ?_
  simp only [zp]
  refine sv (.bool false) 10 rfl rfl (ex_bin (u := (.int .i64 1)) (r := (.int .i64 0)) rfl rfl rfl (eg3 _ _ _ _ _ _) (lss3 _ (by decide))) ?_
  simp only [zp]
  refine st_end ?_
  subst hQ
  refine wp_cond_false rfl ?_
  refine wp_skip ?_
  refine wq fun Q hQ => ?_
  refine sm (.float .f64 x) 13 rfl rfl rfl rfl ?_
  simp only [zp]
  refine sv (.bool c) 14 rfl rfl (ex_bin rfl rfl rfl (egF _ _ _ _ _ _) (gtrF _ ((is_inf hx).trans hc))) ?_
  simp only [zp]
  refine sg (.bool c) 4 rfl rfl rfl rfl ?_
  simp only [zp]
  refine st_end ?_
  subst hQ
  refine wp_ret ?_
  repeat (first | refine ret_out ?_ | refine ret_blk ?_)
  exact bodyPost_ret (results_tmp Try.results12 _ _ _) rfl ⟨rfl, E⟩
theorem kF1 : 0 < key F1 := by
  rw [key_pos (Nat.le_of_lt F1_lt)]
  have := iv_pos (y := F1) (by decide)
  omega
theorem mx2 (ts : Array TypeId) (t : TypeId) (m n : Int) (W : World) : (Builtin.max_ ts t #[.int .i64 m, .int .i64 n]).run Try.prog W = .ok (.int .i64 (max m n)) W := by
  simp [Builtin.max_, Builtin.max2]
  split <;> omega
theorem mn2 (ts : Array TypeId) (t : TypeId) (m n : Int) (W : World) : (Builtin.min_ ts t #[.int .i64 m, .int .i64 n]).run Try.prog W = .ok (.int .i64 (min m n)) W := by
  simp [Builtin.min_, Builtin.min2]
  split <;> omega
section
variable {o : Oper} {a : Act} {W : World}
theorem ex_max {x y : Operand} {ts : Array TypeId} {m n z : Int} (ho : o.op = .call { callee := .builtin .max, args := #[x, y], argTypes := ts }) (hx : a.eval x = .int .i64 m) (hy : a.eval y = .int .i64 n) (hz : max m n = z) : (execOp a.eval o).run Try.prog W = .ok (.value (.int .i64 z)) W := by
  subst hz
  have hr := mx2 ts o.type m n W
  unfold execOp
  simp [ho, resolve, invoke, builtin, hx, hy, hr, Result.andThen]
theorem ex_min {x y : Operand} {ts : Array TypeId} {m n z : Int} (ho : o.op = .call { callee := .builtin .min, args := #[x, y], argTypes := ts }) (hx : a.eval x = .int .i64 m) (hy : a.eval y = .int .i64 n) (hz : min m n = z) : (execOp a.eval o).run Try.prog W = .ok (.value (.int .i64 z)) W := by
  subst hz
  have hr := mn2 ts o.type m n W
  unfold execOp
  simp [ho, resolve, invoke, builtin, hx, hy, hr, Result.andThen]
end

set_option maxHeartbeats 2000000 in
theorem sclean_any (x : Nat) (w : World) (hx : x < 18446744073709551616) : Calls Try.prog 13 #[.float .f64 x] w fun e w' => e = .returned (.float .f64 (cln x)) ∧ Below w.heap.size w w' := by
  have k1 := kF1
  by_cases e0 : isN x = true
  · skip
    have E : Below w.heap.size w w := Below.refl _ _
    go_enter Try.func13, Try.ntmps13
    refine wq fun Q hQ => ?_
    refine sg (.float .f64 0) 2 rfl rfl rfl rfl ?_
    simp only [zp]
    refine st_end ?_
    subst hQ
    refine wp_seq ?_
    refine wp_block ?_
    refine wq fun Q hQ => ?_
    refine sm (.float .f64 x) 4 rfl rfl rfl rfl ?_
    simp only [zp]
    refine sv (.bool false) 5 rfl rfl (ex_bin rfl rfl rfl (egF _ _ _ _ _ _) (gtrF _ (no_gt (.inl e0)))) ?_
    simp only [zp]
    refine sg (.bool false) 3 rfl rfl rfl rfl ?_
    simp only [zp]
    refine st_end ?_
    subst hQ
    refine wp_cond_false rfl ?_
    refine wq fun Q hQ => ?_
    refine sm (.float .f64 x) 7 rfl rfl rfl rfl ?_
    simp only [zp]
    refine sv (.bool false) 8 rfl rfl (ex_bin rfl rfl rfl (egF _ _ _ _ _ _) (gtrF _ (no_gt (.inl e0)))) ?_
    simp only [zp]
    refine sg (.bool false) 6 rfl rfl rfl rfl ?_
    simp only [zp]
    refine st_end ?_
    subst hQ
    refine wp_cond_false rfl ?_
    refine wp_skip ?_
    refine wq fun Q hQ => ?_
    refine sg (.float .f64 0) 2 rfl rfl rfl rfl ?_
    simp only [zp]
    refine st_end ?_
    subst hQ
    refine wp_ret ?_
    repeat (first | refine ret_out ?_ | refine ret_blk ?_)
    refine bodyPost_ret (results_tmp Try.results13 _ _ _) rfl ⟨?_, E⟩
    show Ending.returned (.float .f64 0) = _
    simp [cln, e0] <;> rfl
  · skip
    replace e0 := Bool.eq_false_iff.2 e0
    by_cases e1 : key x ≤ 0
    · skip
      have E : Below w.heap.size w w := Below.refl _ _
      go_enter Try.func13, Try.ntmps13
      refine wq fun Q hQ => ?_
      refine sg (.float .f64 0) 2 rfl rfl rfl rfl ?_
      simp only [zp]
      refine st_end ?_
      subst hQ
      refine wp_seq ?_
      refine wp_block ?_
      refine wq fun Q hQ => ?_
      refine sm (.float .f64 x) 4 rfl rfl rfl rfl ?_
      simp only [zp]
      refine sv (.bool false) 5 rfl rfl (ex_bin rfl rfl rfl (egF _ _ _ _ _ _) (gtrF _ (is_gt e0 N1 (decide_eq_false (by omega))))) ?_
      simp only [zp]
      refine sg (.bool false) 3 rfl rfl rfl rfl ?_
      simp only [zp]
      refine st_end ?_
      subst hQ
      refine wp_cond_false rfl ?_
      refine wq fun Q hQ => ?_
      refine sm (.float .f64 x) 7 rfl rfl rfl rfl ?_
      simp only [zp]
      refine sv (.bool false) 8 rfl rfl (ex_bin rfl rfl rfl (egF _ _ _ _ _ _) (gtrF _ (is_gt e0 N0 (decide_eq_false (by rw [key_zero]; omega))))) ?_
      simp only [zp]
      refine sg (.bool false) 6 rfl rfl rfl rfl ?_
      simp only [zp]
      refine st_end ?_
      subst hQ
      refine wp_cond_false rfl ?_
      refine wp_skip ?_
      refine wq fun Q hQ => ?_
      refine sg (.float .f64 0) 2 rfl rfl rfl rfl ?_
      simp only [zp]
      refine st_end ?_
      subst hQ
      refine wp_ret ?_
      repeat (first | refine ret_out ?_ | refine ret_blk ?_)
      refine bodyPost_ret (results_tmp Try.results13 _ _ _) rfl ⟨?_, E⟩
      show Ending.returned (.float .f64 0) = _
      simp [cln, e0, e1] <;> rfl
    · skip
      by_cases e2 : key F1 < key x
      · skip
        have E : Below w.heap.size w w := Below.refl _ _
        go_enter Try.func13, Try.ntmps13
        refine wq fun Q hQ => ?_
        refine sg (.float .f64 0) 2 rfl rfl rfl rfl ?_
        simp only [zp]
        refine st_end ?_
        subst hQ
        refine wp_seq ?_
        refine wp_block ?_
        refine wq fun Q hQ => ?_
        refine sm (.float .f64 x) 4 rfl rfl rfl rfl ?_
        simp only [zp]
        refine sv (.bool true) 5 rfl rfl (ex_bin rfl rfl rfl (egF _ _ _ _ _ _) (gtrF _ (is_gt e0 N1 (decide_eq_true e2)))) ?_
        simp only [zp]
        refine sg (.bool true) 3 rfl rfl rfl rfl ?_
        simp only [zp]
        refine st_end ?_
        subst hQ
        refine wp_cond_true rfl ?_
        refine wq fun Q hQ => ?_
        refine sg (.float .f64 4607182418800017408) 2 rfl rfl rfl rfl ?_
        simp only [zp]
        refine st_end ?_
        subst hQ
        refine wp_ret ?_
        repeat (first | refine ret_out ?_ | refine ret_blk ?_)
        refine bodyPost_ret (results_tmp Try.results13 _ _ _) rfl ⟨?_, E⟩
        show Ending.returned (.float .f64 4607182418800017408) = _
        simp [cln, e0, e1, e2] <;> rfl
      · skip
        have E : Below w.heap.size w w := Below.refl _ _
        go_enter Try.func13, Try.ntmps13
        refine wq fun Q hQ => ?_
        refine sg (.float .f64 0) 2 rfl rfl rfl rfl ?_
        simp only [zp]
        refine st_end ?_
        subst hQ
        refine wp_seq ?_
        refine wp_block ?_
        refine wq fun Q hQ => ?_
        refine sm (.float .f64 x) 4 rfl rfl rfl rfl ?_
        simp only [zp]
        refine sv (.bool false) 5 rfl rfl (ex_bin rfl rfl rfl (egF _ _ _ _ _ _) (gtrF _ (is_gt e0 N1 (decide_eq_false e2)))) ?_
        simp only [zp]
        refine sg (.bool false) 3 rfl rfl rfl rfl ?_
        simp only [zp]
        refine st_end ?_
        subst hQ
        refine wp_cond_false rfl ?_
        refine wq fun Q hQ => ?_
        refine sm (.float .f64 x) 7 rfl rfl rfl rfl ?_
        simp only [zp]
        refine sv (.bool true) 8 rfl rfl (ex_bin rfl rfl rfl (egF _ _ _ _ _ _) (gtrF _ (is_gt e0 N0 (decide_eq_true (by rw [key_zero]; omega))))) ?_
        simp only [zp]
        refine sg (.bool true) 6 rfl rfl rfl rfl ?_
        simp only [zp]
        refine st_end ?_
        subst hQ
        refine wp_cond_true rfl ?_
        refine wq fun Q hQ => ?_
        refine sm (.float .f64 x) 9 rfl rfl rfl rfl ?_
        simp only [zp]
        refine sg (.float .f64 x) 2 rfl rfl rfl rfl ?_
        simp only [zp]
        refine st_end ?_
        subst hQ
        refine wp_ret ?_
        repeat (first | refine ret_out ?_ | refine ret_blk ?_)
        refine bodyPost_ret (results_tmp Try.results13 _ _ _) rfl ⟨?_, E⟩
        show Ending.returned (.float .f64 x) = _
        simp [cln, e0, e1, e2] <;> rfl
set_option maxHeartbeats 4000000 in
theorem sweight_any (a : Int) (w : World) (ha : a ≤ 9223372036854775807) : Calls Try.prog 10 #[.int .i64 a] w fun e w' => e = .returned (.float .f64 (wt a)) ∧ Below w.heap.size w w' := by
  by_cases e0 : a < 0
  · skip
    have E : Below w.heap.size w w := Below.refl _ _
    go_enter Try.func10, Try.ntmps10
    refine wq fun Q hQ => ?_
    refine sg (.float .f64 0) 2 rfl rfl rfl rfl ?_
    simp only [zp]
    refine st_end ?_
    subst hQ
    refine wp_seq ?_
    refine wq fun Q hQ => ?_
    refine sm (.int .i64 a) 6 rfl rfl rfl rfl ?_
    simp only [zp]
    refine sv (.bool true) 7 rfl rfl (ex_bin (u := (.int .i64 a)) (r := (.int .i64 0)) rfl rfl rfl (eg3 _ _ _ _ _ _) (lss3 _ (decide_eq_true (by omega)))) ?_
    simp only [zp]
    refine st_end ?_
    subst hQ
    refine wp_cond_true rfl ?_
    refine wq fun Q hQ => ?_
    refine sg (.float .f64 4607182418800017408) 2 rfl rfl rfl rfl ?_
    simp only [zp]
    refine st_end ?_
    subst hQ
    refine wp_ret ?_
    repeat (first | refine ret_out ?_ | refine ret_blk ?_)
    refine bodyPost_ret (results_tmp Try.results10 _ _ _) rfl ⟨?_, E⟩
    show Ending.returned (.float .f64 4607182418800017408) = _
    simp [wt, F1, e0]
  · skip
    by_cases e1 : 64 < a / 64
    · skip
      have E : Below w.heap.size w w := Below.refl _ _
      go_enter Try.func10, Try.ntmps10
      refine wq fun Q hQ => ?_
      refine sg (.float .f64 0) 2 rfl rfl rfl rfl ?_
      simp only [zp]
      refine st_end ?_
      subst hQ
      refine wp_seq ?_
      refine wq fun Q hQ => ?_
      refine sm (.int .i64 a) 6 rfl rfl rfl rfl ?_
      simp only [zp]
      refine sv (.bool false) 7 rfl rfl (ex_bin (u := (.int .i64 a)) (r := (.int .i64 0)) rfl rfl rfl (eg3 _ _ _ _ _ _) (lss3 _ (decide_eq_false (by omega)))) ?_
      simp only [zp]
      refine st_end ?_
      subst hQ
      refine wp_cond_false rfl ?_
      refine wp_skip ?_
      refine wq fun Q hQ => ?_
      refine sm (.int .i64 a) 8 rfl rfl rfl rfl ?_
      simp only [zp]
      refine sv (.int .i64 (a / 64)) 9 rfl rfl (ex_bin rfl rfl rfl (eg3 _ _ _ _ _ _) (quo3 _ (by omega) ha rfl)) ?_
      simp only [zp]
      refine sm (.int .i64 a) 10 rfl rfl rfl rfl ?_
      simp only [zp]
      refine sv (.int .i64 (a % 64)) 11 rfl rfl (ex_bin rfl rfl rfl (eg3 _ _ _ _ _ _) (rem3 _ (by omega) ha rfl)) ?_
      simp only [zp]
      refine sg (.int .i64 (a / 64)) 3 rfl rfl rfl rfl ?_
      simp only [zp]
      refine sg (.int .i64 (a % 64)) 4 rfl rfl rfl rfl ?_
      simp only [zp]
      refine st_end ?_
      subst hQ
      refine wp_seq ?_
      refine wq fun Q hQ => ?_
      refine sm (.int .i64 (a / 64)) 12 rfl rfl rfl rfl ?_
      simp only [zp]
      refine sv (.bool true) 13 rfl rfl (ex_bin (u := (.int .i64 (a / 64))) (r := (.int .i64 64)) rfl rfl rfl (eg3 _ _ _ _ _ _) (gtr3 _ (decide_eq_true (by omega)))) ?_
      simp only [zp]
      refine st_end ?_
      subst hQ
      refine wp_cond_true rfl ?_
      refine wq fun Q hQ => ?_
      refine sg (.float .f64 0) 2 rfl rfl rfl rfl ?_
      simp only [zp]
      refine st_end ?_
      subst hQ
      refine wp_ret ?_
      repeat (first | refine ret_out ?_ | refine ret_blk ?_)
      refine bodyPost_ret (results_tmp Try.results10 _ _ _) rfl ⟨?_, E⟩
      show Ending.returned (.float .f64 0) = _
      simp [wt, F1, e0, e1]
    · skip
      have E : Below w.heap.size w w := Below.refl _ _
      go_enter Try.func10, Try.ntmps10
      refine wq fun Q hQ => ?_
      refine sg (.float .f64 0) 2 rfl rfl rfl rfl ?_
      simp only [zp]
      refine st_end ?_
      subst hQ
      refine wp_seq ?_
      refine wq fun Q hQ => ?_
      refine sm (.int .i64 a) 6 rfl rfl rfl rfl ?_
      simp only [zp]
      refine sv (.bool false) 7 rfl rfl (ex_bin (u := (.int .i64 a)) (r := (.int .i64 0)) rfl rfl rfl (eg3 _ _ _ _ _ _) (lss3 _ (decide_eq_false (by omega)))) ?_
      simp only [zp]
      refine st_end ?_
      subst hQ
      refine wp_cond_false rfl ?_
      refine wp_skip ?_
      refine wq fun Q hQ => ?_
      refine sm (.int .i64 a) 8 rfl rfl rfl rfl ?_
      simp only [zp]
      refine sv (.int .i64 (a / 64)) 9 rfl rfl (ex_bin rfl rfl rfl (eg3 _ _ _ _ _ _) (quo3 _ (by omega) ha rfl)) ?_
      simp only [zp]
      refine sm (.int .i64 a) 10 rfl rfl rfl rfl ?_
      simp only [zp]
      refine sv (.int .i64 (a % 64)) 11 rfl rfl (ex_bin rfl rfl rfl (eg3 _ _ _ _ _ _) (rem3 _ (by omega) ha rfl)) ?_
      simp only [zp]
      refine sg (.int .i64 (a / 64)) 3 rfl rfl rfl rfl ?_
      simp only [zp]
      refine sg (.int .i64 (a % 64)) 4 rfl rfl rfl rfl ?_
      simp only [zp]
      refine st_end ?_
      subst hQ
      refine wp_seq ?_
      refine wq fun Q hQ => ?_
      refine sm (.int .i64 (a / 64)) 12 rfl rfl rfl rfl ?_
      simp only [zp]
      refine sv (.bool false) 13 rfl rfl (ex_bin (u := (.int .i64 (a / 64))) (r := (.int .i64 64)) rfl rfl rfl (eg3 _ _ _ _ _ _) (gtr3 _ (decide_eq_false (by omega)))) ?_
      simp only [zp]
      refine st_end ?_
      subst hQ
      refine wp_cond_false rfl ?_
      refine wp_skip ?_
      refine wq fun Q hQ => ?_
      refine sg (.float .f64 4607182418800017408) 5 rfl rfl rfl rfl ?_
      simp only [zp]
      refine st_end ?_
      subst hQ
      refine wp_seq ?_
      refine wq fun Q hQ => ?_
      refine sm (.int .i64 (a / 64)) 14 rfl rfl rfl rfl ?_
      simp only [zp]
      refine sm (.int .i64 0) 15 rfl rfl rfl rfl ?_
      simp only [zp]
      refine st_end ?_
      subst hQ
      refine wp_block ?_
      have hq : ∃ q : Nat, a / 64 = (q : Int) ∧ q ≤ 64 := ⟨(a / 64).toNat, by omega, by omega⟩
      obtain ⟨q, hq, hq2⟩ := hq
      have hr : ∃ r : Nat, a % 64 = (r : Int) ∧ r < 64 := ⟨(a % 64).toNat, by omega, by omega⟩
      obtain ⟨r, hr, hr2⟩ := hr
      have ew : wt a = wtW q r := by unfold wt; rw [if_neg (by omega), if_neg (by omega), hq, hr]; rfl
      rw [hq, hr, ew]
      go_loopw [5, 15] (fun v5 v15 wr => ∃ i : Nat, i ≤ q ∧ v15 = .int .i64 i ∧ v5 = .float .f64 (hf i) ∧ Below w.heap.size w wr) (fun _ v15 _ => q - (intOf v15).toNat)
      case atStart => exact ⟨0, Nat.zero_le _, rfl, rfl, E⟩
      case round =>
        obtain ⟨i, hi, rfl, rfl, E⟩ := hrel
        by_cases hlt : i < q
        · skip
          refine wq fun Q hQ => ?_
          refine sv (.bool true) 16 rfl rfl (ex_bin (u := (.int .i64 (i : Nat))) (r := (.int .i64 (q : Nat))) rfl rfl rfl (eg3 _ _ _ _ _ _) (lss3 _ (decide_eq_true (by omega)))) ?_
          simp only [zp]
          refine st_end ?_
          subst hQ
          refine wp_seq ?_
          refine wp_cond_true rfl ?_
          refine wp_skip ?_
          refine wp_seq ?_
          refine wp_block ?_
          refine wl_in (wl_cap fun Q hQ => ?_)
          refine sm (.float .f64 (hf i)) 17 rfl rfl rfl rfl ?_
          simp only [zp]
          refine sv (.float .f64 (hf (i + 1))) 18 rfl rfl (ex_bin rfl rfl rfl (egF _ _ _ _ _ _) (fdiv_run _ (half_step i (by omega)))) ?_
          simp only [zp]
          refine sg (.float .f64 (hf (i + 1))) 5 rfl rfl rfl rfl ?_
          simp only [zp]
          refine st_end ?_
          subst hQ
          refine wl_in (wl_cap fun Q hQ => ?_)
          refine sv (.int .i64 ((i + 1 : Nat) : Int)) 19 rfl rfl (ex_bin rfl rfl rfl (eg3 _ _ _ _ _ _) (add3 _ (by omega) (by omega))) ?_
          simp only [zp]
          refine sm (.int .i64 ((i + 1 : Nat) : Int)) 15 rfl rfl rfl rfl ?_
          simp only [zp]
          refine st_end ?_
          subst hQ
          refine then_go ?_
          go_roundw
          case rel => exact ⟨i + 1, by omega, rfl, rfl, E⟩
          case measure => simp [intOf]; omega
        · have hin : i = q := by omega
          subst i
          obtain ⟨za, zb, z1, z2, z3⟩ := wt_parts q r hq2 hr2
          refine wq fun Q hQ => ?_
          refine sv (.bool false) 16 rfl rfl (ex_bin (u := (.int .i64 (q : Nat))) (r := (.int .i64 (q : Nat))) rfl rfl rfl (eg3 _ _ _ _ _ _) (lss3 _ (decide_eq_false (by omega)))) ?_
          simp only [zp]
          refine st_end ?_
          subst hQ
          refine wp_seq ?_
          refine wp_cond_false rfl ?_
          refine wp_exit ?_
          refine ex_then ?_
          refine ex_then ?_
          refine ex_blk ?_
          refine wq fun Q hQ => ?_
          refine sm (.float .f64 (hf q)) 20 rfl rfl rfl rfl ?_
          simp only [zp]
          refine sm (.int .i64 (r : Nat)) 21 rfl rfl rfl rfl ?_
          simp only [zp]
          refine sv (.float .f64 (FloatKind.f64.nearest (r : Nat))) 22 rfl rfl (ex_cvt rfl rfl) ?_
          simp only [zp]
          refine sv (.float .f64 za) 23 rfl rfl (ex_bin rfl rfl rfl (egF _ _ _ _ _ _) (fdiv_run _ (z1))) ?_
          simp only [zp]
          refine sv (.float .f64 zb) 24 rfl rfl (ex_bin rfl rfl rfl (egF _ _ _ _ _ _) (fsub_run _ (z2))) ?_
          simp only [zp]
          refine sv (.float .f64 (wtW q r)) 25 rfl rfl (ex_bin rfl rfl rfl (egF _ _ _ _ _ _) (fmul_run _ (z3))) ?_
          simp only [zp]
          refine sg (.float .f64 (wtW q r)) 2 rfl rfl rfl rfl ?_
          simp only [zp]
          refine st_end ?_
          subst hQ
          refine wp_ret ?_
          repeat (first | refine ret_out ?_ | refine ret_blk ?_)
          exact bodyPost_ret (results_tmp Try.results10 _ _ _) rfl ⟨rfl, E⟩
set_option maxHeartbeats 2000000 in
theorem sfits_any (a c : Int) (w : World) {b : Bool} (hb : decide (0 ≤ a ∧ a ≤ c) = b) : Calls Try.prog 17 #[.int .i64 a, .int .i64 c] w fun e w' => e = .returned (.bool b) ∧ Below w.heap.size w w' := by
  subst hb
  by_cases e0 : 0 ≤ a
  · skip
    by_cases e1 : a ≤ c
    · skip
      have E : Below w.heap.size w w := Below.refl _ _
      go_enter Try.func17, Try.ntmps17
      refine wq fun Q hQ => ?_
      refine sg (.bool false) 4 rfl rfl rfl rfl ?_
      simp only [zp]
      refine st_end ?_
      subst hQ
      refine wq fun Q hQ => ?_
      refine sm (.int .i64 a) 5 rfl rfl rfl rfl ?_
      simp only [zp]
      refine sv (.bool true) 6 rfl rfl (ex_bin (u := (.int .i64 0)) (r := (.int .i64 a)) rfl rfl rfl (eg3 _ _ _ _ _ _) (leq3 _ (decide_eq_true (by omega)))) ?_
      simp only [zp]
      refine sm (.bool true) 7 rfl rfl rfl rfl ?_
      simp only [zp]
      refine sm (.int .i64 a) 8 rfl rfl rfl rfl ?_
      simp only [zp]
      refine sm (.int .i64 c) 9 rfl rfl rfl rfl ?_
      simp only [zp]
      refine sv (.bool true) 10 rfl rfl (ex_bin (u := (.int .i64 a)) (r := (.int .i64 c)) rfl rfl rfl (eg3 _ _ _ _ _ _) (leq3 _ (decide_eq_true (by omega)))) ?_
      simp only [zp]
      refine sv (.bool true) 11 rfl rfl (ex_pkT rfl rfl rfl) ?_
      simp only [zp]
      refine sg (.bool true) 4 rfl rfl rfl rfl ?_
      simp only [zp]
      refine st_end ?_
      subst hQ
      refine wp_ret ?_
      repeat (first | refine ret_out ?_ | refine ret_blk ?_)
      refine bodyPost_ret (results_tmp Try.results17 _ _ _) rfl ⟨?_, E⟩
      show Ending.returned (.bool true) = _
      simp [e0, e1]
    · skip
      have E : Below w.heap.size w w := Below.refl _ _
      go_enter Try.func17, Try.ntmps17
      refine wq fun Q hQ => ?_
      refine sg (.bool false) 4 rfl rfl rfl rfl ?_
      simp only [zp]
      refine st_end ?_
      subst hQ
      refine wq fun Q hQ => ?_
      refine sm (.int .i64 a) 5 rfl rfl rfl rfl ?_
      simp only [zp]
      refine sv (.bool true) 6 rfl rfl (ex_bin (u := (.int .i64 0)) (r := (.int .i64 a)) rfl rfl rfl (eg3 _ _ _ _ _ _) (leq3 _ (decide_eq_true (by omega)))) ?_
      simp only [zp]
      refine sm (.bool true) 7 rfl rfl rfl rfl ?_
      simp only [zp]
      refine sm (.int .i64 a) 8 rfl rfl rfl rfl ?_
      simp only [zp]
      refine sm (.int .i64 c) 9 rfl rfl rfl rfl ?_
      simp only [zp]
      refine sv (.bool false) 10 rfl rfl (ex_bin (u := (.int .i64 a)) (r := (.int .i64 c)) rfl rfl rfl (eg3 _ _ _ _ _ _) (leq3 _ (decide_eq_false (by omega)))) ?_
      simp only [zp]
      refine sv (.bool false) 11 rfl rfl (ex_pkT rfl rfl rfl) ?_
      simp only [zp]
      refine sg (.bool false) 4 rfl rfl rfl rfl ?_
      simp only [zp]
      refine st_end ?_
      subst hQ
      refine wp_ret ?_
      repeat (first | refine ret_out ?_ | refine ret_blk ?_)
      refine bodyPost_ret (results_tmp Try.results17 _ _ _) rfl ⟨?_, E⟩
      show Ending.returned (.bool false) = _
      simp [e0, e1]
  · skip
    have E : Below w.heap.size w w := Below.refl _ _
    go_enter Try.func17, Try.ntmps17
    refine wq fun Q hQ => ?_
    refine sg (.bool false) 4 rfl rfl rfl rfl ?_
    simp only [zp]
    refine st_end ?_
    subst hQ
    refine wq fun Q hQ => ?_
    refine sm (.int .i64 a) 5 rfl rfl rfl rfl ?_
    simp only [zp]
    refine sv (.bool false) 6 rfl rfl (ex_bin (u := (.int .i64 0)) (r := (.int .i64 a)) rfl rfl rfl (eg3 _ _ _ _ _ _) (leq3 _ (decide_eq_false (by omega)))) ?_
    simp only [zp]
    refine sm (.bool false) 7 rfl rfl rfl rfl ?_
    simp only [zp]
    refine sn 8 rfl rfl ?_
    simp only [zp]
    refine sn 9 rfl rfl ?_
    simp only [zp]
    refine sn 10 rfl rfl ?_
    simp only [zp]
    refine sv (.bool false) 11 rfl rfl (ex_pkF rfl rfl rfl) ?_
    simp only [zp]
    refine sg (.bool false) 4 rfl rfl rfl rfl ?_
    simp only [zp]
    refine st_end ?_
    subst hQ
    refine wp_ret ?_
    repeat (first | refine ret_out ?_ | refine ret_blk ?_)
    refine bodyPost_ret (results_tmp Try.results17 _ _ _) rfl ⟨?_, E⟩
    show Ending.returned (.bool false) = _
    simp [e0]
set_option maxHeartbeats 2000000 in
theorem sguess_any (a c : Int) (w : World) (hc : c ≤ 9223372036854775807) : Calls Try.prog 11 #[.int .i64 a, .int .i64 c] w fun e w' => e = .returned (.float .f64 (gs a c)) ∧ Below w.heap.size w w' := by
  by_cases e0 : 0 ≤ a ∧ a ≤ c
  · skip
    have G := gs_facts (a := a) (c := c) e0.1 e0.2 hc
    have E : Below w.heap.size w w := Below.refl _ _
    go_enter Try.func11, Try.ntmps11
    refine wq fun Q hQ => ?_
    refine sg (.float .f64 0) 4 rfl rfl rfl rfl ?_
    simp only [zp]
    refine st_end ?_
    subst hQ
    refine wp_seq ?_
    refine wq fun Q hQ => ?_
    refine sm (.int .i64 a) 6 rfl rfl rfl rfl ?_
    simp only [zp]
    refine sm (.int .i64 c) 7 rfl rfl rfl rfl ?_
    simp only [zp]
    refine st_call (some 8) rfl rfl (sfits_any a c w (decide_eq_true e0)) (ex_call (f := 17) (vs := [(.int .i64 a), (.int .i64 c)]) rfl (cf17 _) rfl) ?_
    rintro e W1 ⟨rfl, B⟩
    refine ⟨_, rfl, ?_⟩
    simp only [zp]
    replace E := below_next E B
    refine sv (.bool false) 9 rfl rfl (ex_not rfl rfl rfl) ?_
    simp only [zp]
    refine st_end ?_
    subst hQ
    refine wp_cond_false rfl ?_
    refine wp_skip ?_
    refine wq fun Q hQ => ?_
    refine sm (.int .i64 c) 10 rfl rfl rfl rfl ?_
    simp only [zp]
    refine sv (.float .f64 (i2f c)) 11 rfl rfl (ex_cvt rfl rfl) ?_
    simp only [zp]
    refine sv (.float .f64 (fadd (i2f c) F1)) 12 rfl rfl (ex_bin rfl rfl rfl (egF _ _ _ _ _ _) (fadd_run _ (G.1))) ?_
    simp only [zp]
    refine sg (.float .f64 (fadd (i2f c) F1)) 5 rfl rfl rfl rfl ?_
    simp only [zp]
    refine st_end ?_
    subst hQ
    refine wq fun Q hQ => ?_
    refine sm (.float .f64 (fadd (i2f c) F1)) 13 rfl rfl rfl rfl ?_
    simp only [zp]
    refine sm (.int .i64 a) 14 rfl rfl rfl rfl ?_
    simp only [zp]
    refine sv (.float .f64 (i2f a)) 15 rfl rfl (ex_cvt rfl rfl) ?_
    simp only [zp]
    refine sv (.float .f64 (fsub (fadd (i2f c) F1) (i2f a))) 16 rfl rfl (ex_bin rfl rfl rfl (egF _ _ _ _ _ _) (fsub_run _ (G.2.1))) ?_
    simp only [zp]
    refine sm (.float .f64 (fadd (i2f c) F1)) 17 rfl rfl rfl rfl ?_
    simp only [zp]
    refine sv (.float .f64 (fdiv (fsub (fadd (i2f c) F1) (i2f a)) (fadd (i2f c) F1))) 18 rfl rfl (ex_bin rfl rfl rfl (egF _ _ _ _ _ _) (fdiv_run _ (G.2.2.1))) ?_
    simp only [zp]
    refine sg (.float .f64 (fdiv (fsub (fadd (i2f c) F1) (i2f a)) (fadd (i2f c) F1))) 4 rfl rfl rfl rfl ?_
    simp only [zp]
    refine st_end ?_
    subst hQ
    refine wp_ret ?_
    repeat (first | refine ret_out ?_ | refine ret_blk ?_)
    refine bodyPost_ret (results_tmp Try.results11 _ _ _) rfl ⟨?_, E⟩
    unfold gs
    rw [if_neg (by omega)]
    rfl
  · skip
    have E : Below w.heap.size w w := Below.refl _ _
    go_enter Try.func11, Try.ntmps11
    refine wq fun Q hQ => ?_
    refine sg (.float .f64 0) 4 rfl rfl rfl rfl ?_
    simp only [zp]
    refine st_end ?_
    subst hQ
    refine wp_seq ?_
    refine wq fun Q hQ => ?_
    refine sm (.int .i64 a) 6 rfl rfl rfl rfl ?_
    simp only [zp]
    refine sm (.int .i64 c) 7 rfl rfl rfl rfl ?_
    simp only [zp]
    refine st_call (some 8) rfl rfl (sfits_any a c w (decide_eq_false e0)) (ex_call (f := 17) (vs := [(.int .i64 a), (.int .i64 c)]) rfl (cf17 _) rfl) ?_
    rintro e W1 ⟨rfl, B⟩
    refine ⟨_, rfl, ?_⟩
    simp only [zp]
    replace E := below_next E B
    refine sv (.bool true) 9 rfl rfl (ex_not rfl rfl rfl) ?_
    simp only [zp]
    refine st_end ?_
    subst hQ
    refine wp_cond_true rfl ?_
    refine wq fun Q hQ => ?_
    refine sg (.float .f64 0) 4 rfl rfl rfl rfl ?_
    simp only [zp]
    refine st_end ?_
    subst hQ
    refine wp_ret ?_
    repeat (first | refine ret_out ?_ | refine ret_blk ?_)
    refine bodyPost_ret (results_tmp Try.results11 _ _ _) rfl ⟨?_, E⟩
    unfold gs
    rw [if_pos (by omega)]
    rfl
set_option maxHeartbeats 4000000 in
theorem scost_any (fe d : Int) (x : Nat) (w : World) (hx : x < 18446744073709551616) (f2 : fe ≤ 9223372036854775807) (d2 : d ≤ 9223372036854775807) : Calls Try.prog 8 #[.int .i64 fe, .int .i64 d, .float .f64 x] w fun e w' => e = .returned (.float .f64 (costN fe d x)) ∧ Below w.heap.size w w' := by
  have LC := cln_le hx
  have w1 := F1_lt
  have KC := isN_pos (show cln x ≤ 9218868437227405312 by omega)
  have KV := key_pos (show cln x ≤ 9218868437227405312 by omega)
  by_cases e0 : fe < 0
  · skip
    have E : Below w.heap.size w w := Below.refl _ _
    go_enter Try.func8, Try.ntmps8
    refine wq fun Q hQ => ?_
    refine sg (.float .f64 0) 6 rfl rfl rfl rfl ?_
    simp only [zp]
    refine st_end ?_
    subst hQ
    refine wq fun Q hQ => ?_
    refine sm (.float .f64 x) 7 rfl rfl rfl rfl ?_
    simp only [zp]
    refine st_call (some 8) rfl rfl (sclean_any x w hx) (ex_call (f := 13) (vs := [(.float .f64 x)]) rfl (cf13 _) rfl) ?_
    rintro e W1 ⟨rfl, B⟩
    refine ⟨_, rfl, ?_⟩
    simp only [zp]
    replace E := below_next E B
    refine sg (.float .f64 (cln x)) 2 rfl rfl rfl rfl ?_
    simp only [zp]
    refine st_end ?_
    subst hQ
    refine wp_seq ?_
    refine wq fun Q hQ => ?_
    refine sm (.int .i64 fe) 9 rfl rfl rfl rfl ?_
    simp only [zp]
    refine sv (.bool true) 10 rfl rfl (ex_bin (u := (.int .i64 fe)) (r := (.int .i64 0)) rfl rfl rfl (eg3 _ _ _ _ _ _) (lss3 _ (decide_eq_true (by omega)))) ?_
    simp only [zp]
    refine sm (.bool true) 11 rfl rfl rfl rfl ?_
    simp only [zp]
    refine sn 12 rfl rfl ?_
    simp only [zp]
    refine sn 13 rfl rfl ?_
    simp only [zp]
    refine sv (.bool true) 14 rfl rfl (ex_pkT rfl rfl rfl) ?_
    simp only [zp]
    refine sm (.bool true) 15 rfl rfl rfl rfl ?_
    simp only [zp]
    refine sn 16 rfl rfl ?_
    simp only [zp]
    refine sn 17 rfl rfl ?_
    simp only [zp]
    refine sv (.bool true) 18 rfl rfl (ex_pkT rfl rfl rfl) ?_
    simp only [zp]
    refine st_end ?_
    subst hQ
    refine wp_cond_true rfl ?_
    refine wq fun Q hQ => ?_
    refine st_call (some 19) rfl rfl (inf_any W1) (ex_call (f := 9) (vs := [(.int .i64 1)]) rfl (cf9 _) rfl) ?_
    rintro e W2 ⟨rfl, B⟩
    refine ⟨_, rfl, ?_⟩
    simp only [zp]
    replace E := below_next E B
    refine sg (.float .f64 9218868437227405312) 6 rfl rfl rfl rfl ?_
    simp only [zp]
    refine st_end ?_
    subst hQ
    refine wp_ret ?_
    repeat (first | refine ret_out ?_ | refine ret_blk ?_)
    refine bodyPost_ret (results_tmp Try.results8 _ _ _) rfl ⟨?_, E⟩
    unfold costN
    rw [if_pos (by omega)]
    rfl
  · skip
    by_cases e1 : d < 0
    · skip
      have E : Below w.heap.size w w := Below.refl _ _
      go_enter Try.func8, Try.ntmps8
      refine wq fun Q hQ => ?_
      refine sg (.float .f64 0) 6 rfl rfl rfl rfl ?_
      simp only [zp]
      refine st_end ?_
      subst hQ
      refine wq fun Q hQ => ?_
      refine sm (.float .f64 x) 7 rfl rfl rfl rfl ?_
      simp only [zp]
      refine st_call (some 8) rfl rfl (sclean_any x w hx) (ex_call (f := 13) (vs := [(.float .f64 x)]) rfl (cf13 _) rfl) ?_
      rintro e W1 ⟨rfl, B⟩
      refine ⟨_, rfl, ?_⟩
      simp only [zp]
      replace E := below_next E B
      refine sg (.float .f64 (cln x)) 2 rfl rfl rfl rfl ?_
      simp only [zp]
      refine st_end ?_
      subst hQ
      refine wp_seq ?_
      refine wq fun Q hQ => ?_
      refine sm (.int .i64 fe) 9 rfl rfl rfl rfl ?_
      simp only [zp]
      refine sv (.bool false) 10 rfl rfl (ex_bin (u := (.int .i64 fe)) (r := (.int .i64 0)) rfl rfl rfl (eg3 _ _ _ _ _ _) (lss3 _ (decide_eq_false (by omega)))) ?_
      simp only [zp]
      refine sm (.bool false) 11 rfl rfl rfl rfl ?_
      simp only [zp]
      refine sm (.int .i64 d) 12 rfl rfl rfl rfl ?_
      simp only [zp]
      refine sv (.bool true) 13 rfl rfl (ex_bin (u := (.int .i64 d)) (r := (.int .i64 0)) rfl rfl rfl (eg3 _ _ _ _ _ _) (lss3 _ (decide_eq_true (by omega)))) ?_
      simp only [zp]
      refine sv (.bool true) 14 rfl rfl (ex_pkF rfl rfl rfl) ?_
      simp only [zp]
      refine sm (.bool true) 15 rfl rfl rfl rfl ?_
      simp only [zp]
      refine sn 16 rfl rfl ?_
      simp only [zp]
      refine sn 17 rfl rfl ?_
      simp only [zp]
      refine sv (.bool true) 18 rfl rfl (ex_pkT rfl rfl rfl) ?_
      simp only [zp]
      refine st_end ?_
      subst hQ
      refine wp_cond_true rfl ?_
      refine wq fun Q hQ => ?_
      refine st_call (some 19) rfl rfl (inf_any W1) (ex_call (f := 9) (vs := [(.int .i64 1)]) rfl (cf9 _) rfl) ?_
      rintro e W2 ⟨rfl, B⟩
      refine ⟨_, rfl, ?_⟩
      simp only [zp]
      replace E := below_next E B
      refine sg (.float .f64 9218868437227405312) 6 rfl rfl rfl rfl ?_
      simp only [zp]
      refine st_end ?_
      subst hQ
      refine wp_ret ?_
      repeat (first | refine ret_out ?_ | refine ret_blk ?_)
      refine bodyPost_ret (results_tmp Try.results8 _ _ _) rfl ⟨?_, E⟩
      unfold costN
      rw [if_pos (by omega)]
      rfl
    · skip
      by_cases e2 : cln x = 0
      · skip
        have E : Below w.heap.size w w := Below.refl _ _
        go_enter Try.func8, Try.ntmps8
        refine wq fun Q hQ => ?_
        refine sg (.float .f64 0) 6 rfl rfl rfl rfl ?_
        simp only [zp]
        refine st_end ?_
        subst hQ
        refine wq fun Q hQ => ?_
        refine sm (.float .f64 x) 7 rfl rfl rfl rfl ?_
        simp only [zp]
        refine st_call (some 8) rfl rfl (sclean_any x w hx) (ex_call (f := 13) (vs := [(.float .f64 x)]) rfl (cf13 _) rfl) ?_
        rintro e W1 ⟨rfl, B⟩
        refine ⟨_, rfl, ?_⟩
        simp only [zp]
        replace E := below_next E B
        refine sg (.float .f64 (cln x)) 2 rfl rfl rfl rfl ?_
        simp only [zp]
        refine st_end ?_
        subst hQ
        refine wp_seq ?_
        refine wq fun Q hQ => ?_
        refine sm (.int .i64 fe) 9 rfl rfl rfl rfl ?_
        simp only [zp]
        refine sv (.bool false) 10 rfl rfl (ex_bin (u := (.int .i64 fe)) (r := (.int .i64 0)) rfl rfl rfl (eg3 _ _ _ _ _ _) (lss3 _ (decide_eq_false (by omega)))) ?_
        simp only [zp]
        refine sm (.bool false) 11 rfl rfl rfl rfl ?_
        simp only [zp]
        refine sm (.int .i64 d) 12 rfl rfl rfl rfl ?_
        simp only [zp]
        refine sv (.bool false) 13 rfl rfl (ex_bin (u := (.int .i64 d)) (r := (.int .i64 0)) rfl rfl rfl (eg3 _ _ _ _ _ _) (lss3 _ (decide_eq_false (by omega)))) ?_
        simp only [zp]
        refine sv (.bool false) 14 rfl rfl (ex_pkF rfl rfl rfl) ?_
        simp only [zp]
        refine sm (.bool false) 15 rfl rfl rfl rfl ?_
        simp only [zp]
        refine sm (.float .f64 (cln x)) 16 rfl rfl rfl rfl ?_
        simp only [zp]
        refine sv (.bool true) 17 rfl rfl (ex_bin rfl rfl rfl (egF _ _ _ _ _ _) (eqlF _ (is_eq KC N0 (decide_eq_true (by rw [KV, key_zero, e2, iv_zero]; rfl))))) ?_
        simp only [zp]
        refine sv (.bool true) 18 rfl rfl (ex_pkF rfl rfl rfl) ?_
        simp only [zp]
        refine st_end ?_
        subst hQ
        refine wp_cond_true rfl ?_
        refine wq fun Q hQ => ?_
        refine st_call (some 19) rfl rfl (inf_any W1) (ex_call (f := 9) (vs := [(.int .i64 1)]) rfl (cf9 _) rfl) ?_
        rintro e W2 ⟨rfl, B⟩
        refine ⟨_, rfl, ?_⟩
        simp only [zp]
        replace E := below_next E B
        refine sg (.float .f64 9218868437227405312) 6 rfl rfl rfl rfl ?_
        simp only [zp]
        refine st_end ?_
        subst hQ
        refine wp_ret ?_
        repeat (first | refine ret_out ?_ | refine ret_blk ?_)
        refine bodyPost_ret (results_tmp Try.results8 _ _ _) rfl ⟨?_, E⟩
        unfold costN
        rw [if_pos (by omega)]
        rfl
      · skip
        have G := cost_facts (f := fe) (d := d) (c := cln x) (by omega) f2 (by omega) d2 (by omega) LC
        have E : Below w.heap.size w w := Below.refl _ _
        go_enter Try.func8, Try.ntmps8
        refine wq fun Q hQ => ?_
        refine sg (.float .f64 0) 6 rfl rfl rfl rfl ?_
        simp only [zp]
        refine st_end ?_
        subst hQ
        refine wq fun Q hQ => ?_
        refine sm (.float .f64 x) 7 rfl rfl rfl rfl ?_
        simp only [zp]
        refine st_call (some 8) rfl rfl (sclean_any x w hx) (ex_call (f := 13) (vs := [(.float .f64 x)]) rfl (cf13 _) rfl) ?_
        rintro e W1 ⟨rfl, B⟩
        refine ⟨_, rfl, ?_⟩
        simp only [zp]
        replace E := below_next E B
        refine sg (.float .f64 (cln x)) 2 rfl rfl rfl rfl ?_
        simp only [zp]
        refine st_end ?_
        subst hQ
        refine wp_seq ?_
        refine wq fun Q hQ => ?_
        refine sm (.int .i64 fe) 9 rfl rfl rfl rfl ?_
        simp only [zp]
        refine sv (.bool false) 10 rfl rfl (ex_bin (u := (.int .i64 fe)) (r := (.int .i64 0)) rfl rfl rfl (eg3 _ _ _ _ _ _) (lss3 _ (decide_eq_false (by omega)))) ?_
        simp only [zp]
        refine sm (.bool false) 11 rfl rfl rfl rfl ?_
        simp only [zp]
        refine sm (.int .i64 d) 12 rfl rfl rfl rfl ?_
        simp only [zp]
        refine sv (.bool false) 13 rfl rfl (ex_bin (u := (.int .i64 d)) (r := (.int .i64 0)) rfl rfl rfl (eg3 _ _ _ _ _ _) (lss3 _ (decide_eq_false (by omega)))) ?_
        simp only [zp]
        refine sv (.bool false) 14 rfl rfl (ex_pkF rfl rfl rfl) ?_
        simp only [zp]
        refine sm (.bool false) 15 rfl rfl rfl rfl ?_
        simp only [zp]
        refine sm (.float .f64 (cln x)) 16 rfl rfl rfl rfl ?_
        simp only [zp]
        refine sv (.bool false) 17 rfl rfl (ex_bin rfl rfl rfl (egF _ _ _ _ _ _) (eqlF _ (is_eq KC N0 (decide_eq_false (by rw [KV, key_zero]; have := iv_pos (y := cln x) (by omega); omega))))) ?_
        simp only [zp]
        refine sv (.bool false) 18 rfl rfl (ex_pkF rfl rfl rfl) ?_
        simp only [zp]
        refine st_end ?_
        subst hQ
        refine wp_cond_false rfl ?_
        refine wp_skip ?_
        refine wq fun Q hQ => ?_
        refine sm (.int .i64 fe) 20 rfl rfl rfl rfl ?_
        simp only [zp]
        refine sv (.float .f64 (i2f fe)) 21 rfl rfl (ex_cvt rfl rfl) ?_
        simp only [zp]
        refine sm (.int .i64 d) 22 rfl rfl rfl rfl ?_
        simp only [zp]
        refine sv (.float .f64 (i2f d)) 23 rfl rfl (ex_cvt rfl rfl) ?_
        simp only [zp]
        refine sv (.float .f64 (fmul (i2f d) F10)) 24 rfl rfl (ex_bin rfl rfl rfl (egF _ _ _ _ _ _) (fmul_run _ (G.1))) ?_
        simp only [zp]
        refine sv (.float .f64 (fadd (i2f fe) (fmul (i2f d) F10))) 25 rfl rfl (ex_bin rfl rfl rfl (egF _ _ _ _ _ _) (fadd_run _ (G.2.2.1))) ?_
        simp only [zp]
        refine sm (.float .f64 (cln x)) 26 rfl rfl rfl rfl ?_
        simp only [zp]
        refine sv (.float .f64 (fdiv F100 (cln x))) 27 rfl rfl (ex_bin rfl rfl rfl (egF _ _ _ _ _ _) (fdiv_run _ (G.2.1))) ?_
        simp only [zp]
        refine sv (.float .f64 (fadd (fadd (i2f fe) (fmul (i2f d) F10)) (fdiv F100 (cln x)))) 28 rfl rfl (ex_bin rfl rfl rfl (egF _ _ _ _ _ _) (fadd_run _ (G.2.2.2.1))) ?_
        simp only [zp]
        refine sg (.float .f64 (fadd (fadd (i2f fe) (fmul (i2f d) F10)) (fdiv F100 (cln x)))) 6 rfl rfl rfl rfl ?_
        simp only [zp]
        refine st_end ?_
        subst hQ
        refine wp_ret ?_
        repeat (first | refine ret_out ?_ | refine ret_blk ?_)
        refine bodyPost_ret (results_tmp Try.results8 _ _ _) rfl ⟨?_, E⟩
        unfold costN
        rw [if_neg (by omega)]
        rfl
set_option maxHeartbeats 2000000 in
theorem snum_any (x : Nat) (w : World) {c : Bool} (hc : (!isN x) = c) : Calls Try.prog 15 #[.float .f64 x] w fun e w' => e = .returned (.bool c) ∧ Below w.heap.size w w' := by
  subst hc
  by_cases e0 : isN x = true
  · skip
    have E : Below w.heap.size w w := Below.refl _ _
    go_enter Try.func15, Try.ntmps15
    refine wq fun Q hQ => ?_
    refine sg (.bool false) 2 rfl rfl rfl rfl ?_
    simp only [zp]
    refine st_end ?_
    subst hQ
    refine wq fun Q hQ => ?_
    refine sm (.float .f64 x) 3 rfl rfl rfl rfl ?_
    simp only [zp]
    refine sm (.float .f64 x) 4 rfl rfl rfl rfl ?_
    simp only [zp]
    refine sv (.bool false) 5 rfl rfl (ex_bin rfl rfl rfl (egF _ _ _ _ _ _) (eqlF _ (no_eq (.inl e0)))) ?_
    simp only [zp]
    refine sg (.bool false) 2 rfl rfl rfl rfl ?_
    simp only [zp]
    refine st_end ?_
    subst hQ
    refine wp_ret ?_
    repeat (first | refine ret_out ?_ | refine ret_blk ?_)
    refine bodyPost_ret (results_tmp Try.results15 _ _ _) rfl ⟨?_, E⟩
    show Ending.returned (.bool false) = _
    simp [e0]
  · skip
    replace e0 := Bool.eq_false_iff.2 e0
    have E : Below w.heap.size w w := Below.refl _ _
    go_enter Try.func15, Try.ntmps15
    refine wq fun Q hQ => ?_
    refine sg (.bool false) 2 rfl rfl rfl rfl ?_
    simp only [zp]
    refine st_end ?_
    subst hQ
    refine wq fun Q hQ => ?_
    refine sm (.float .f64 x) 3 rfl rfl rfl rfl ?_
    simp only [zp]
    refine sm (.float .f64 x) 4 rfl rfl rfl rfl ?_
    simp only [zp]
    refine sv (.bool true) 5 rfl rfl (ex_bin rfl rfl rfl (egF _ _ _ _ _ _) (eqlF _ (is_eq e0 e0 (decide_eq_true rfl)))) ?_
    simp only [zp]
    refine sg (.bool true) 2 rfl rfl rfl rfl ?_
    simp only [zp]
    refine st_end ?_
    subst hQ
    refine wp_ret ?_
    repeat (first | refine ret_out ?_ | refine ret_blk ?_)
    refine bodyPost_ret (results_tmp Try.results15 _ _ _) rfl ⟨?_, E⟩
    show Ending.returned (.bool true) = _
    simp [e0]
set_option maxHeartbeats 2000000 in
theorem sless_any (x y : Nat) (w : World) {c : Bool} (hc : lsN x y = c) : Calls Try.prog 7 #[.float .f64 x, .float .f64 y] w fun e w' => e = .returned (.bool c) ∧ Below w.heap.size w w' := by
  subst hc
  by_cases e0 : isN x = true
  · skip
    have E : Below w.heap.size w w := Below.refl _ _
    go_enter Try.func7, Try.ntmps7
    refine wq fun Q hQ => ?_
    refine sg (.bool false) 4 rfl rfl rfl rfl ?_
    simp only [zp]
    refine st_end ?_
    subst hQ
    refine wq fun Q hQ => ?_
    refine sm (.float .f64 x) 5 rfl rfl rfl rfl ?_
    simp only [zp]
    refine sm (.float .f64 y) 6 rfl rfl rfl rfl ?_
    simp only [zp]
    refine sv (.bool false) 7 rfl rfl (ex_bin rfl rfl rfl (egF _ _ _ _ _ _) (lssF _ (no_lt (.inl e0)))) ?_
    simp only [zp]
    refine sm (.bool false) 8 rfl rfl rfl rfl ?_
    simp only [zp]
    refine sm (.float .f64 x) 9 rfl rfl rfl rfl ?_
    simp only [zp]
    refine st_call (some 10) rfl rfl (snum_any x w (c := false) (by simp [e0])) (ex_call (f := 15) (vs := [(.float .f64 x)]) rfl (cf15 _) rfl) ?_
    rintro e W1 ⟨rfl, B⟩
    refine ⟨_, rfl, ?_⟩
    simp only [zp]
    replace E := below_next E B
    refine sm (.bool false) 11 rfl rfl rfl rfl ?_
    simp only [zp]
    refine sn 12 rfl rfl ?_
    simp only [zp]
    refine sn 13 rfl rfl ?_
    simp only [zp]
    refine sn 14 rfl rfl ?_
    simp only [zp]
    refine sv (.bool false) 15 rfl rfl (ex_pkF rfl rfl rfl) ?_
    simp only [zp]
    refine sv (.bool false) 16 rfl rfl (ex_pkF rfl rfl rfl) ?_
    simp only [zp]
    refine sg (.bool false) 4 rfl rfl rfl rfl ?_
    simp only [zp]
    refine st_end ?_
    subst hQ
    refine wp_ret ?_
    repeat (first | refine ret_out ?_ | refine ret_blk ?_)
    refine bodyPost_ret (results_tmp Try.results7 _ _ _) rfl ⟨?_, E⟩
    show Ending.returned (.bool false) = _
    simp [lsN, e0]
  · skip
    replace e0 := Bool.eq_false_iff.2 e0
    by_cases e1 : isN y = true
    · skip
      have E : Below w.heap.size w w := Below.refl _ _
      go_enter Try.func7, Try.ntmps7
      refine wq fun Q hQ => ?_
      refine sg (.bool false) 4 rfl rfl rfl rfl ?_
      simp only [zp]
      refine st_end ?_
      subst hQ
      refine wq fun Q hQ => ?_
      refine sm (.float .f64 x) 5 rfl rfl rfl rfl ?_
      simp only [zp]
      refine sm (.float .f64 y) 6 rfl rfl rfl rfl ?_
      simp only [zp]
      refine sv (.bool false) 7 rfl rfl (ex_bin rfl rfl rfl (egF _ _ _ _ _ _) (lssF _ (no_lt (.inr e1)))) ?_
      simp only [zp]
      refine sm (.bool false) 8 rfl rfl rfl rfl ?_
      simp only [zp]
      refine sm (.float .f64 x) 9 rfl rfl rfl rfl ?_
      simp only [zp]
      refine st_call (some 10) rfl rfl (snum_any x w (c := true) (by simp [e0])) (ex_call (f := 15) (vs := [(.float .f64 x)]) rfl (cf15 _) rfl) ?_
      rintro e W1 ⟨rfl, B⟩
      refine ⟨_, rfl, ?_⟩
      simp only [zp]
      replace E := below_next E B
      refine sm (.bool true) 11 rfl rfl rfl rfl ?_
      simp only [zp]
      refine sm (.float .f64 y) 12 rfl rfl rfl rfl ?_
      simp only [zp]
      refine st_call (some 13) rfl rfl (snum_any y W1 (c := false) (by simp [e1])) (ex_call (f := 15) (vs := [(.float .f64 y)]) rfl (cf15 _) rfl) ?_
      rintro e W2 ⟨rfl, B⟩
      refine ⟨_, rfl, ?_⟩
      simp only [zp]
      replace E := below_next E B
      refine sv (.bool true) 14 rfl rfl (ex_not rfl rfl rfl) ?_
      simp only [zp]
      refine sv (.bool true) 15 rfl rfl (ex_pkT rfl rfl rfl) ?_
      simp only [zp]
      refine sv (.bool true) 16 rfl rfl (ex_pkF rfl rfl rfl) ?_
      simp only [zp]
      refine sg (.bool true) 4 rfl rfl rfl rfl ?_
      simp only [zp]
      refine st_end ?_
      subst hQ
      refine wp_ret ?_
      repeat (first | refine ret_out ?_ | refine ret_blk ?_)
      refine bodyPost_ret (results_tmp Try.results7 _ _ _) rfl ⟨?_, E⟩
      show Ending.returned (.bool true) = _
      simp [lsN, e0, e1]
    · skip
      replace e1 := Bool.eq_false_iff.2 e1
      by_cases e2 : key x < key y
      · skip
        have E : Below w.heap.size w w := Below.refl _ _
        go_enter Try.func7, Try.ntmps7
        refine wq fun Q hQ => ?_
        refine sg (.bool false) 4 rfl rfl rfl rfl ?_
        simp only [zp]
        refine st_end ?_
        subst hQ
        refine wq fun Q hQ => ?_
        refine sm (.float .f64 x) 5 rfl rfl rfl rfl ?_
        simp only [zp]
        refine sm (.float .f64 y) 6 rfl rfl rfl rfl ?_
        simp only [zp]
        refine sv (.bool true) 7 rfl rfl (ex_bin rfl rfl rfl (egF _ _ _ _ _ _) (lssF _ (is_lt e0 e1 (decide_eq_true e2)))) ?_
        simp only [zp]
        refine sm (.bool true) 8 rfl rfl rfl rfl ?_
        simp only [zp]
        refine sn 9 rfl rfl ?_
        simp only [zp]
        refine sn 10 rfl rfl ?_
        simp only [zp]
        refine sn 11 rfl rfl ?_
        simp only [zp]
        refine sn 12 rfl rfl ?_
        simp only [zp]
        refine sn 13 rfl rfl ?_
        simp only [zp]
        refine sn 14 rfl rfl ?_
        simp only [zp]
        refine sn 15 rfl rfl ?_
        simp only [zp]
        refine sv (.bool true) 16 rfl rfl (ex_pkT rfl rfl rfl) ?_
        simp only [zp]
        refine sg (.bool true) 4 rfl rfl rfl rfl ?_
        simp only [zp]
        refine st_end ?_
        subst hQ
        refine wp_ret ?_
        repeat (first | refine ret_out ?_ | refine ret_blk ?_)
        refine bodyPost_ret (results_tmp Try.results7 _ _ _) rfl ⟨?_, E⟩
        show Ending.returned (.bool true) = _
        simp [lsN, e0, e1, e2]
      · skip
        have E : Below w.heap.size w w := Below.refl _ _
        go_enter Try.func7, Try.ntmps7
        refine wq fun Q hQ => ?_
        refine sg (.bool false) 4 rfl rfl rfl rfl ?_
        simp only [zp]
        refine st_end ?_
        subst hQ
        refine wq fun Q hQ => ?_
        refine sm (.float .f64 x) 5 rfl rfl rfl rfl ?_
        simp only [zp]
        refine sm (.float .f64 y) 6 rfl rfl rfl rfl ?_
        simp only [zp]
        refine sv (.bool false) 7 rfl rfl (ex_bin rfl rfl rfl (egF _ _ _ _ _ _) (lssF _ (is_lt e0 e1 (decide_eq_false e2)))) ?_
        simp only [zp]
        refine sm (.bool false) 8 rfl rfl rfl rfl ?_
        simp only [zp]
        refine sm (.float .f64 x) 9 rfl rfl rfl rfl ?_
        simp only [zp]
        refine st_call (some 10) rfl rfl (snum_any x w (c := true) (by simp [e0])) (ex_call (f := 15) (vs := [(.float .f64 x)]) rfl (cf15 _) rfl) ?_
        rintro e W1 ⟨rfl, B⟩
        refine ⟨_, rfl, ?_⟩
        simp only [zp]
        replace E := below_next E B
        refine sm (.bool true) 11 rfl rfl rfl rfl ?_
        simp only [zp]
        refine sm (.float .f64 y) 12 rfl rfl rfl rfl ?_
        simp only [zp]
        refine st_call (some 13) rfl rfl (snum_any y W1 (c := true) (by simp [e1])) (ex_call (f := 15) (vs := [(.float .f64 y)]) rfl (cf15 _) rfl) ?_
        rintro e W2 ⟨rfl, B⟩
        refine ⟨_, rfl, ?_⟩
        simp only [zp]
        replace E := below_next E B
        refine sv (.bool false) 14 rfl rfl (ex_not rfl rfl rfl) ?_
        simp only [zp]
        refine sv (.bool false) 15 rfl rfl (ex_pkT rfl rfl rfl) ?_
        simp only [zp]
        refine sv (.bool false) 16 rfl rfl (ex_pkF rfl rfl rfl) ?_
        simp only [zp]
        refine sg (.bool false) 4 rfl rfl rfl rfl ?_
        simp only [zp]
        refine st_end ?_
        subst hQ
        refine wp_ret ?_
        repeat (first | refine ret_out ?_ | refine ret_blk ?_)
        refine bodyPost_ret (results_tmp Try.results7 _ _ _) rfl ⟨?_, E⟩
        show Ending.returned (.bool false) = _
        simp [lsN, e0, e1, e2]
/-- n floats lie there -/
def Fs (w : World) (ao : Option Addr) (n : Nat) (z : Nat → Nat) : Prop := n = 0 ∨ ∃ b o, ao = some ⟨b, o, none⟩ ∧ ∀ i, i < n → w.cell? ⟨b, o + i, none⟩ = some (.float .f64 (z i))
theorem Fs.below {w W : World} {ao : Option Addr} {n : Nat} {z : Nat → Nat} (h : Fs w ao n z) (hB : Below w.heap.size w W) : Fs W ao n z := by
  rcases h with h | ⟨b, o, e, h⟩
  · exact .inl h
  · exact .inr ⟨b, o, e, fun i hi => (hB.cell (block_lt_of_cell (h i hi))).trans (h i hi)⟩
/-- their sum, m of them from i on -/
def jk (z : Nat → Nat) : Nat → Nat → Nat → Nat
  | 0, _, s => s
  | m + 1, i, s => if okJ (z i) then jk z m (i + 1) (fadd s (z i)) else 9218868437227405312
theorem jk_jn (z : Nat → Nat) : ∀ m i s, jk z m i s = jn ((List.range' i m).map z) s
  | 0, _, _ => rfl
  | m + 1, i, s => by
    rw [List.range'_succ, List.map_cons]
    unfold jk jn
    rw [jk_jn z m (i + 1)]
section
variable {o : Oper} {a : Act} {W : World}
theorem ex_ixF {x y : Operand} {b p n c k : Nat} (ho : o.op = .indexAddr 22 x y) (hx : a.eval x = .slice (some ⟨b, p, none⟩) n c) (hy : a.eval y = .int .i64 k) (hk : k < n) : (execOp a.eval o).run Try.prog W = .ok (.value (.pointer (some ⟨b, p + k, none⟩))) W := by
  have h1 : (k : Int) < (n : Int) := by omega
  unfold execOp
  simp only [ho, hx, hy]
  go_simp
end

theorem jk_bad {z : Nat → Nat} {n i s m J : Nat} (hm : n - i = m + 1) (hj : jk z (n - i) i s = J ∨ (s = 9218868437227405312 ∧ J = 9218868437227405312)) (hk : okJ (z i) = false) : J = 9218868437227405312 := by
  rcases hj with hj | hj
  · rw [hm] at hj
    have h : (if okJ (z i) then jk z m (i + 1) (fadd s (z i)) else 9218868437227405312) = J := hj
    rw [hk] at h
    exact h.symm
  · exact hj.2
theorem jk_on {z : Nat → Nat} {n i s m J : Nat} (hm : n - i = m + 1) (hs : s ≤ 9218868437227405312) (hx : z i < 18446744073709551616) (e0 : isN (z i) = false) (e1 : 0 ≤ key (z i)) (hj : jk z (n - i) i s = J ∨ (s = 9218868437227405312 ∧ J = 9218868437227405312)) : ∃ t, Ieee.double.add s (z i) = some t ∧ t ≤ 9218868437227405312 ∧ (jk z (n - (i + 1)) (i + 1) t = J ∨ (t = 9218868437227405312 ∧ J = 9218868437227405312)) := by
  by_cases e2 : z i = 9218868437227405312
  · have hk : okJ (z i) = false := by unfold okJ; rw [e2]; rfl
    exact ⟨_, add_end hs (by omega) (.inr e2), Nat.le_refl _, .inr ⟨rfl, jk_bad hm hj hk⟩⟩
  · have hb : (z i == 9218868437227405312) = false := by simpa using e2
    have hk : okJ (z i) = true := by unfold okJ; rw [e0, hb, decide_eq_true e1]; rfl
    have JS := jn_step hs hx hk
    refine ⟨_, JS.1, JS.2.1, ?_⟩
    rcases hj with hj | hj
    · rw [hm] at hj
      have h : (if okJ (z i) then jk z m (i + 1) (fadd s (z i)) else 9218868437227405312) = J := hj
      rw [hk] at h
      left
      rw [show n - (i + 1) = m by omega]
      exact h
    · right
      have := JS.2.1
      have := JS.2.2.1
      exact ⟨by omega, hj.2⟩

set_option maxHeartbeats 8000000 in
theorem sjoin_any {ao : Option Addr} {n c : Nat} {z : Nat → Nat} (w : World) (hF : Fs w ao n z) (hn : n ≤ 140737488355328) (hz : ∀ i, i < n → z i < 18446744073709551616) : Calls Try.prog 5 #[.slice ao n c] w fun e w' => e = .returned (.float .f64 (jk z n 0 0)) ∧ Below w.heap.size w w' := by
  obtain ⟨J, hJ⟩ : ∃ J, jk z n 0 0 = J := ⟨_, rfl⟩
  rw [hJ]
  have E : Below w.heap.size w w := Below.refl _ _
  go_enter Try.func5, Try.ntmps5
  refine wq fun Q hQ => ?_
  refine sg (.float .f64 0) 2 rfl rfl rfl rfl ?_
  simp only [zp]
  refine st_end ?_
  subst hQ
  refine wq fun Q hQ => ?_
  refine sg (.float .f64 0) 3 rfl rfl rfl rfl ?_
  simp only [zp]
  refine st_end ?_
  subst hQ
  refine wp_seq ?_
  refine wq fun Q hQ => ?_
  refine sm (.slice ao n c) 6 rfl rfl rfl rfl ?_
  simp only [zp]
  refine sv (.int .i64 (n : Nat)) 7 rfl rfl (ex_len rfl rfl (len22 _ _ _ _ _)) ?_
  simp only [zp]
  refine sm (.int .i64 0) 8 rfl rfl rfl rfl ?_
  simp only [zp]
  refine st_end ?_
  subst hQ
  refine wp_block ?_
  go_loopw [3, 8] (fun v3 v8 wr => ∃ i s : Nat, i ≤ n ∧ v8 = .int .i64 i ∧ v3 = .float .f64 s ∧ s ≤ 9218868437227405312 ∧ (jk z (n - i) i s = J ∨ (s = 9218868437227405312 ∧ J = 9218868437227405312)) ∧ Below w.heap.size w wr) (fun _ v8 _ => n - (intOf v8).toNat)
  case atStart => exact ⟨0, 0, Nat.zero_le _, rfl, rfl, Nat.zero_le _, .inl hJ, E⟩
  case round =>
    obtain ⟨i, s, hi, rfl, rfl, hs, hj, E⟩ := hrel
    by_cases hlt : i < n
    · rcases hF with h | ⟨b, off, rfl, h⟩
      · omega
      have hx := hz i hlt
      have hcell := h i hlt
      obtain ⟨m, hm⟩ : ∃ m, n - i = m + 1 := ⟨n - i - 1, by omega⟩
      by_cases e0 : isN (z i) = true
      · skip
        have hk : okJ (z i) = false := by unfold okJ; rw [e0]; rfl
        have hJI := jk_bad hm hj hk
        subst hJI
        refine wq fun Q hQ => ?_
        refine sv (.bool true) 9 rfl rfl (ex_bin (u := (.int .i64 (i : Nat))) (r := (.int .i64 (n : Nat))) rfl rfl rfl (eg3 _ _ _ _ _ _) (lss3 _ (decide_eq_true (by omega)))) ?_
        simp only [zp]
        refine st_end ?_
        subst hQ
        refine wp_seq ?_
        refine wp_cond_true rfl ?_
        refine wp_skip ?_
        refine wp_seq ?_
        refine wp_block ?_
        refine wq fun Q hQ => ?_
        refine sv (.pointer (some ⟨b, (off + i), none⟩)) 10 rfl rfl (ex_ixF rfl rfl rfl hlt) ?_
        simp only [zp]
        refine sv (.float .f64 (z i)) 11 rfl rfl (ex_load rfl rfl (ld23 ((E.cell (block_lt_of_cell hcell)).trans hcell))) ?_
        simp only [zp]
        refine sg (.float .f64 (z i)) 5 rfl rfl rfl rfl ?_
        simp only [zp]
        refine st_end ?_
        subst hQ
        refine wp_seq ?_
        refine wq fun Q hQ => ?_
        refine sm (.float .f64 (z i)) 12 rfl rfl rfl rfl ?_
        simp only [zp]
        refine sv (.bool false) 13 rfl rfl (ex_bin rfl rfl rfl (egF _ _ _ _ _ _) (geqF _ (no_ge (.inl e0)))) ?_
        simp only [zp]
        refine sv (.bool true) 14 rfl rfl (ex_not rfl rfl rfl) ?_
        simp only [zp]
        refine st_end ?_
        subst hQ
        refine wp_cond_true rfl ?_
        refine wq fun Q hQ => ?_
        refine st_call (some 15) rfl rfl (inf_any wr) (ex_call (f := 9) (vs := [(.int .i64 1)]) rfl (cf9 _) rfl) ?_
        rintro e W1 ⟨rfl, B⟩
        refine ⟨_, rfl, ?_⟩
        simp only [zp]
        replace E := below_next E B
        refine sg (.float .f64 9218868437227405312) 2 rfl rfl rfl rfl ?_
        simp only [zp]
        refine st_end ?_
        subst hQ
        refine wp_ret ?_
        repeat (first | refine ret_out ?_ | refine ret_blk ?_)
        exact bodyPost_ret (results_tmp Try.results5 _ _ _) rfl ⟨rfl, E⟩
      replace e0 := Bool.eq_false_iff.2 e0
      by_cases e1 : 0 ≤ key (z i)
      · skip
        obtain ⟨t, ht, hts, htj⟩ := jk_on hm hs hx e0 e1 hj
        refine wq fun Q hQ => ?_
        refine sv (.bool true) 9 rfl rfl (ex_bin (u := (.int .i64 (i : Nat))) (r := (.int .i64 (n : Nat))) rfl rfl rfl (eg3 _ _ _ _ _ _) (lss3 _ (decide_eq_true (by omega)))) ?_
        simp only [zp]
        refine st_end ?_
        subst hQ
        refine wp_seq ?_
        refine wp_cond_true rfl ?_
        refine wp_skip ?_
        refine wp_seq ?_
        refine wp_block ?_
        refine wq fun Q hQ => ?_
        refine sv (.pointer (some ⟨b, (off + i), none⟩)) 10 rfl rfl (ex_ixF rfl rfl rfl hlt) ?_
        simp only [zp]
        refine sv (.float .f64 (z i)) 11 rfl rfl (ex_load rfl rfl (ld23 ((E.cell (block_lt_of_cell hcell)).trans hcell))) ?_
        simp only [zp]
        refine sg (.float .f64 (z i)) 5 rfl rfl rfl rfl ?_
        simp only [zp]
        refine st_end ?_
        subst hQ
        refine wp_seq ?_
        refine wq fun Q hQ => ?_
        refine sm (.float .f64 (z i)) 12 rfl rfl rfl rfl ?_
        simp only [zp]
        refine sv (.bool true) 13 rfl rfl (ex_bin rfl rfl rfl (egF _ _ _ _ _ _) (geqF _ (is_ge e0 N0 (decide_eq_true (by rw [key_zero]; omega))))) ?_
        simp only [zp]
        refine sv (.bool false) 14 rfl rfl (ex_not rfl rfl rfl) ?_
        simp only [zp]
        refine st_end ?_
        subst hQ
        refine wp_cond_false rfl ?_
        refine wp_skip ?_
        refine wl_in (wl_cap fun Q hQ => ?_)
        refine sm (.float .f64 s) 16 rfl rfl rfl rfl ?_
        simp only [zp]
        refine sm (.float .f64 (z i)) 17 rfl rfl rfl rfl ?_
        simp only [zp]
        refine sv (.float .f64 t) 18 rfl rfl (ex_bin rfl rfl rfl (egF _ _ _ _ _ _) (fadd_run _ (ht))) ?_
        simp only [zp]
        refine sg (.float .f64 t) 3 rfl rfl rfl rfl ?_
        simp only [zp]
        refine st_end ?_
        subst hQ
        refine wl_in (wl_cap fun Q hQ => ?_)
        refine sv (.int .i64 ((i + 1 : Nat) : Int)) 19 rfl rfl (ex_bin rfl rfl rfl (eg3 _ _ _ _ _ _) (add3 _ (by omega) (by omega))) ?_
        simp only [zp]
        refine sm (.int .i64 ((i + 1 : Nat) : Int)) 8 rfl rfl rfl rfl ?_
        simp only [zp]
        refine st_end ?_
        subst hQ
        refine then_go ?_
        go_roundw
        case rel => exact ⟨i + 1, t, by omega, rfl, rfl, hts, htj, E⟩
        case measure => simp [intOf]; omega
      · skip
        have hk : okJ (z i) = false := by unfold okJ; rw [decide_eq_false e1]; simp
        have hJI := jk_bad hm hj hk
        subst hJI
        refine wq fun Q hQ => ?_
        refine sv (.bool true) 9 rfl rfl (ex_bin (u := (.int .i64 (i : Nat))) (r := (.int .i64 (n : Nat))) rfl rfl rfl (eg3 _ _ _ _ _ _) (lss3 _ (decide_eq_true (by omega)))) ?_
        simp only [zp]
        refine st_end ?_
        subst hQ
        refine wp_seq ?_
        refine wp_cond_true rfl ?_
        refine wp_skip ?_
        refine wp_seq ?_
        refine wp_block ?_
        refine wq fun Q hQ => ?_
        refine sv (.pointer (some ⟨b, (off + i), none⟩)) 10 rfl rfl (ex_ixF rfl rfl rfl hlt) ?_
        simp only [zp]
        refine sv (.float .f64 (z i)) 11 rfl rfl (ex_load rfl rfl (ld23 ((E.cell (block_lt_of_cell hcell)).trans hcell))) ?_
        simp only [zp]
        refine sg (.float .f64 (z i)) 5 rfl rfl rfl rfl ?_
        simp only [zp]
        refine st_end ?_
        subst hQ
        refine wp_seq ?_
        refine wq fun Q hQ => ?_
        refine sm (.float .f64 (z i)) 12 rfl rfl rfl rfl ?_
        simp only [zp]
        refine sv (.bool false) 13 rfl rfl (ex_bin rfl rfl rfl (egF _ _ _ _ _ _) (geqF _ (is_ge e0 N0 (decide_eq_false (by rw [key_zero]; omega))))) ?_
        simp only [zp]
        refine sv (.bool true) 14 rfl rfl (ex_not rfl rfl rfl) ?_
        simp only [zp]
        refine st_end ?_
        subst hQ
        refine wp_cond_true rfl ?_
        refine wq fun Q hQ => ?_
        refine st_call (some 15) rfl rfl (inf_any wr) (ex_call (f := 9) (vs := [(.int .i64 1)]) rfl (cf9 _) rfl) ?_
        rintro e W2 ⟨rfl, B⟩
        refine ⟨_, rfl, ?_⟩
        simp only [zp]
        replace E := below_next E B
        refine sg (.float .f64 9218868437227405312) 2 rfl rfl rfl rfl ?_
        simp only [zp]
        refine st_end ?_
        subst hQ
        refine wp_ret ?_
        repeat (first | refine ret_out ?_ | refine ret_blk ?_)
        exact bodyPost_ret (results_tmp Try.results5 _ _ _) rfl ⟨rfl, E⟩
    · have hin : i = n := by omega
      subst i
      have hsJ : s = J := by
        rcases hj with hj | hj
        · rw [Nat.sub_self] at hj; exact hj
        · exact hj.1.trans hj.2.symm
      refine wq fun Q hQ => ?_
      refine sv (.bool false) 9 rfl rfl (ex_bin (u := (.int .i64 (n : Nat))) (r := (.int .i64 (n : Nat))) rfl rfl rfl (eg3 _ _ _ _ _ _) (lss3 _ (decide_eq_false (by omega)))) ?_
      simp only [zp]
      refine st_end ?_
      subst hQ
      refine wp_seq ?_
      refine wp_cond_false rfl ?_
      refine wp_exit ?_
      refine ex_then ?_
      refine ex_then ?_
      refine ex_blk ?_
      refine wq fun Q hQ => ?_
      refine sm (.float .f64 s) 20 rfl rfl rfl rfl ?_
      simp only [zp]
      refine sg (.float .f64 s) 2 rfl rfl rfl rfl ?_
      simp only [zp]
      refine st_end ?_
      subst hQ
      refine wp_ret ?_
      refine bodyPost_ret (results_tmp Try.results5 _ _ _) rfl ⟨?_, E⟩
      rw [← hsJ]
      rfl
theorem asW {f : Nat} {args : Array Value} {w : World} {x y : Nat} (h : x = y) (hc : Calls Try.prog f args w fun e w' => e = .returned (.float .f64 x) ∧ Below w.heap.size w w') : Calls Try.prog f args w fun e w' => e = .returned (.float .f64 y) ∧ Below w.heap.size w w' := by subst h; exact hc
theorem lw64 : wt 64 = 4602678819172646912 := by decide +kernel
theorem lw32 : wt 32 = 4604930618986332160 := by decide +kernel
theorem lg09 : gs 0 9 = 4607182418800017408 := by decide +kernel
theorem lc0 : costN 1 0 0 = 9218868437227405312 := by decide +kernel
theorem lc1 : costN 1 2 4602678819172646912 = 4641979762795872256 := by decide +kernel
theorem lcn : cln 9221120237041090561 = 0 := by decide +kernel
theorem ll1 : lsN 9221120237041090561 4607182418800017408 = false := by decide +kernel
theorem ll2 : lsN 4607182418800017408 9221120237041090561 = true := by decide +kernel
theorem pos_ge {x y : Nat} (hx : x ≤ 9218868437227405312) (hy : y ≤ 9218868437227405312) (h : y ≤ x) : (Ieee.double.order x y == some .gt || Ieee.double.order x y == some .eq) = true :=
  is_ge (isN_pos hx) (isN_pos hy) (decide_eq_true (by rw [key_pos hx, key_pos hy]; have := iv_le h; omega))
theorem pos_le {x y : Nat} (hx : x ≤ 9218868437227405312) (hy : y ≤ 9218868437227405312) (h : x ≤ y) : (Ieee.double.order x y == some .lt || Ieee.double.order x y == some .eq) = true :=
  is_le (isN_pos hx) (isN_pos hy) (decide_eq_true (by rw [key_pos hx, key_pos hy]; have := iv_le h; omega))
theorem same_eq {x : Nat} (hx : isN x = false) : (Ieee.double.order x x == some .eq) = true := is_eq hx hx (decide_eq_true rfl)

set_option maxHeartbeats 4000000 in
theorem lives_any (w : World) : Calls Try.prog 6 #[] w fun e w' => e = .returned (.bool true) ∧ Below w.heap.size w w' := by
  have E : Below w.heap.size w w := Below.refl _ _
  go_enter Try.func6, Try.ntmps6
  refine wq fun Q hQ => ?_
  refine sg (.bool false) 0 rfl rfl rfl rfl ?_
  simp only [zp]
  refine st_end ?_
  subst hQ
  refine wq fun Q hQ => ?_
  refine st_call (some 1) rfl rfl (asW lw64 (sweight_any 64 w (by decide))) (ex_call (f := 10) (vs := [(.int .i64 64)]) rfl (cf10 _) rfl) ?_
  rintro e W1 ⟨rfl, B⟩
  refine ⟨_, rfl, ?_⟩
  simp only [zp]
  replace E := below_next E B
  refine sv (.bool true) 2 rfl rfl (ex_bin rfl rfl rfl (egF _ _ _ _ _ _) (eqlF _ (same_eq (by decide)))) ?_
  simp only [zp]
  refine sm (.bool true) 3 rfl rfl rfl rfl ?_
  simp only [zp]
  refine st_call (some 4) rfl rfl (asW lw32 (sweight_any 32 W1 (by decide))) (ex_call (f := 10) (vs := [(.int .i64 32)]) rfl (cf10 _) rfl) ?_
  rintro e W2 ⟨rfl, B⟩
  refine ⟨_, rfl, ?_⟩
  simp only [zp]
  replace E := below_next E B
  refine sv (.bool true) 5 rfl rfl (ex_bin rfl rfl rfl (egF _ _ _ _ _ _) (eqlF _ (same_eq (by decide)))) ?_
  simp only [zp]
  refine sv (.bool true) 6 rfl rfl (ex_pkT rfl rfl rfl) ?_
  simp only [zp]
  refine sm (.bool true) 7 rfl rfl rfl rfl ?_
  simp only [zp]
  refine st_call (some 8) rfl rfl (asW lg09 (sguess_any 0 9 W2 (by decide))) (ex_call (f := 11) (vs := [(.int .i64 0), (.int .i64 9)]) rfl (cf11 _) rfl) ?_
  rintro e W3 ⟨rfl, B⟩
  refine ⟨_, rfl, ?_⟩
  simp only [zp]
  replace E := below_next E B
  refine sv (.bool true) 9 rfl rfl (ex_bin rfl rfl rfl (egF _ _ _ _ _ _) (eqlF _ (same_eq (by decide)))) ?_
  simp only [zp]
  refine sv (.bool true) 10 rfl rfl (ex_pkT rfl rfl rfl) ?_
  simp only [zp]
  refine sm (.bool true) 11 rfl rfl rfl rfl ?_
  simp only [zp]
  refine st_call (some 12) rfl rfl (asW lc0 (scost_any 1 0 0 W3 (by decide) (by decide) (by decide))) (ex_call (f := 8) (vs := [(.int .i64 1), (.int .i64 0), (.float .f64 0)]) rfl (cf8 _) rfl) ?_
  rintro e W4 ⟨rfl, B⟩
  refine ⟨_, rfl, ?_⟩
  simp only [zp]
  replace E := below_next E B
  refine st_call (some 13) rfl rfl (isinf_any 9218868437227405312 W4 (by decide) rfl) (ex_call (f := 12) (vs := [(.float .f64 9218868437227405312), (.int .i64 1)]) rfl (cf12 _) rfl) ?_
  rintro e W5 ⟨rfl, B⟩
  refine ⟨_, rfl, ?_⟩
  simp only [zp]
  replace E := below_next E B
  refine sv (.bool true) 14 rfl rfl (ex_pkT rfl rfl rfl) ?_
  simp only [zp]
  refine sm (.bool true) 15 rfl rfl rfl rfl ?_
  simp only [zp]
  refine st_call (some 16) rfl rfl (asW lc1 (scost_any 1 2 4602678819172646912 W5 (by decide) (by decide) (by decide))) (ex_call (f := 8) (vs := [(.int .i64 1), (.int .i64 2), (.float .f64 4602678819172646912)]) rfl (cf8 _) rfl) ?_
  rintro e W6 ⟨rfl, B⟩
  refine ⟨_, rfl, ?_⟩
  simp only [zp]
  replace E := below_next E B
  refine sv (.bool true) 17 rfl rfl (ex_bin rfl rfl rfl (egF _ _ _ _ _ _) (eqlF _ (same_eq (by decide)))) ?_
  simp only [zp]
  refine sv (.bool true) 18 rfl rfl (ex_pkT rfl rfl rfl) ?_
  simp only [zp]
  refine sm (.bool true) 19 rfl rfl rfl rfl ?_
  simp only [zp]
  refine st_call (some 20) rfl rfl (nan_any W6) (ex_call (f := 14) (vs := []) rfl (cf14 _) rfl) ?_
  rintro e W7 ⟨rfl, B⟩
  refine ⟨_, rfl, ?_⟩
  simp only [zp]
  replace E := below_next E B
  refine st_call (some 21) rfl rfl (asW lcn (sclean_any 9221120237041090561 W7 (by decide))) (ex_call (f := 13) (vs := [(.float .f64 9221120237041090561)]) rfl (cf13 _) rfl) ?_
  rintro e W8 ⟨rfl, B⟩
  refine ⟨_, rfl, ?_⟩
  simp only [zp]
  replace E := below_next E B
  refine sv (.bool true) 22 rfl rfl (ex_bin rfl rfl rfl (egF _ _ _ _ _ _) (eqlF _ (same_eq (by decide)))) ?_
  simp only [zp]
  refine sv (.bool true) 23 rfl rfl (ex_pkT rfl rfl rfl) ?_
  simp only [zp]
  refine sm (.bool true) 24 rfl rfl rfl rfl ?_
  simp only [zp]
  refine st_call (some 25) rfl rfl (nan_any W8) (ex_call (f := 14) (vs := []) rfl (cf14 _) rfl) ?_
  rintro e W9 ⟨rfl, B⟩
  refine ⟨_, rfl, ?_⟩
  simp only [zp]
  replace E := below_next E B
  refine st_call (some 26) rfl rfl (sless_any 9221120237041090561 4607182418800017408 W9 ll1) (ex_call (f := 7) (vs := [(.float .f64 9221120237041090561), (.float .f64 4607182418800017408)]) rfl (cf7 _) rfl) ?_
  rintro e W10 ⟨rfl, B⟩
  refine ⟨_, rfl, ?_⟩
  simp only [zp]
  replace E := below_next E B
  refine sv (.bool true) 27 rfl rfl (ex_not rfl rfl rfl) ?_
  simp only [zp]
  refine sv (.bool true) 28 rfl rfl (ex_pkT rfl rfl rfl) ?_
  simp only [zp]
  refine sm (.bool true) 29 rfl rfl rfl rfl ?_
  simp only [zp]
  refine st_call (some 30) rfl rfl (nan_any W10) (ex_call (f := 14) (vs := []) rfl (cf14 _) rfl) ?_
  rintro e W11 ⟨rfl, B⟩
  refine ⟨_, rfl, ?_⟩
  simp only [zp]
  replace E := below_next E B
  refine st_call (some 31) rfl rfl (sless_any 4607182418800017408 9221120237041090561 W11 ll2) (ex_call (f := 7) (vs := [(.float .f64 4607182418800017408), (.float .f64 9221120237041090561)]) rfl (cf7 _) rfl) ?_
  rintro e W12 ⟨rfl, B⟩
  refine ⟨_, rfl, ?_⟩
  simp only [zp]
  replace E := below_next E B
  refine sv (.bool true) 32 rfl rfl (ex_pkT rfl rfl rfl) ?_
  simp only [zp]
  refine sg (.bool true) 0 rfl rfl rfl rfl ?_
  simp only [zp]
  refine st_end ?_
  subst hQ
  refine wp_ret ?_
  repeat (first | refine ret_out ?_ | refine ret_blk ?_)
  exact bodyPost_ret (results_tmp Try.results6 _ _ _) rfl ⟨rfl, E⟩
theorem jk_le (z : Nat → Nat) (n : Nat) (hz : ∀ i, i < n → z i < 18446744073709551616) : jk z n 0 0 ≤ 9218868437227405312 := by
  rw [jk_jn]
  exact (jn_le _ 0 (Nat.zero_le _) (fun x hx => by
    obtain ⟨i, hi, rfl⟩ := List.mem_map.1 hx
    rw [List.mem_range'_1] at hi
    exact hz i (by omega))).1
theorem jk_each (z : Nat → Nat) (n : Nat) (hz : ∀ i, i < n → z i < 18446744073709551616) (i : Nat) (hi : i < n) : (okJ (z i) = true → key (z i) ≤ key (jk z n 0 0)) ∧ (okJ (z i) = false → jk z n 0 0 = 9218868437227405312) := by
  rw [jk_jn]
  refine jn_each _ 0 (Nat.zero_le _) (fun x hx => ?_) (z i) (List.mem_map.2 ⟨i, by rw [List.mem_range'_1]; omega, rfl⟩)
  obtain ⟨j, hj, rfl⟩ := List.mem_map.1 hx
  rw [List.mem_range'_1] at hj
  exact hz j (by omega)
theorem lsInf : lsN 9214871658872686752 9218868437227405312 = true := by decide +kernel
set_option maxHeartbeats 8000000 in
theorem joins_any {ao : Option Addr} {n c : Nat} {z : Nat → Nat} (w : World) (hF : Fs w ao n z) (hn : n ≤ 140737488355328) (hz : ∀ i, i < n → z i < 18446744073709551616) : Calls Try.prog 3 #[.slice ao n c] w fun e w' => e = .returned (.bool true) ∧ Below w.heap.size w w' := by
  have LJ := jk_le z n hz
  have EJ := jk_each z n hz
  obtain ⟨J, hJ⟩ : ∃ J, jk z n 0 0 = J := ⟨_, rfl⟩
  rw [hJ] at LJ EJ
  have NJ := isN_pos LJ
  have KJ := key_pos LJ
  have E : Below w.heap.size w w := Below.refl _ _
  go_enter Try.func3, Try.ntmps3
  refine wq fun Q hQ => ?_
  refine sg (.bool false) 2 rfl rfl rfl rfl ?_
  simp only [zp]
  refine st_end ?_
  subst hQ
  refine wq fun Q hQ => ?_
  refine sm (.slice ao n c) 5 rfl rfl rfl rfl ?_
  simp only [zp]
  refine st_call (some 6) rfl rfl (asW hJ (sjoin_any w (hF.below E) hn hz)) (ex_call (f := 5) (vs := [(.slice ao n c)]) rfl (cf5 _) rfl) ?_
  rintro e W1 ⟨rfl, B⟩
  refine ⟨_, rfl, ?_⟩
  simp only [zp]
  replace E := below_next E B
  refine sg (.float .f64 J) 3 rfl rfl rfl rfl ?_
  simp only [zp]
  refine st_end ?_
  subst hQ
  refine wp_seq ?_
  refine wq fun Q hQ => ?_
  refine st_call (some 7) rfl rfl (lives_any W1) (ex_call (f := 6) (vs := []) rfl (cf6 _) rfl) ?_
  rintro e W2 ⟨rfl, B⟩
  refine ⟨_, rfl, ?_⟩
  simp only [zp]
  replace E := below_next E B
  refine sv (.bool false) 8 rfl rfl (ex_not rfl rfl rfl) ?_
  simp only [zp]
  refine sm (.bool false) 9 rfl rfl rfl rfl ?_
  simp only [zp]
  refine sm (.float .f64 J) 10 rfl rfl rfl rfl ?_
  simp only [zp]
  refine sm (.float .f64 J) 11 rfl rfl rfl rfl ?_
  simp only [zp]
  refine sv (.bool false) 12 rfl rfl (ex_bin rfl rfl rfl (egF _ _ _ _ _ _) (neqF _ (is_ne NJ NJ (decide_eq_false (fun h => h rfl))))) ?_
  simp only [zp]
  refine sv (.bool false) 13 rfl rfl (ex_pkF rfl rfl rfl) ?_
  simp only [zp]
  refine sm (.bool false) 14 rfl rfl rfl rfl ?_
  simp only [zp]
  refine sm (.float .f64 J) 15 rfl rfl rfl rfl ?_
  simp only [zp]
  refine sv (.bool false) 16 rfl rfl (ex_bin rfl rfl rfl (egF _ _ _ _ _ _) (lssF _ (is_lt NJ N0 (decide_eq_false (by rw [KJ, key_zero]; omega))))) ?_
  simp only [zp]
  refine sv (.bool false) 17 rfl rfl (ex_pkF rfl rfl rfl) ?_
  simp only [zp]
  refine st_end ?_
  subst hQ
  refine wp_cond_false rfl ?_
  refine wp_skip ?_
  refine wp_seq ?_
  refine wq fun Q hQ => ?_
  refine sg (.int .i64 0) 4 rfl rfl rfl rfl ?_
  simp only [zp]
  refine st_end ?_
  subst hQ
  refine wp_block ?_
  go_loopw [4] (fun v4 wr => ∃ i : Nat, i ≤ n ∧ v4 = .int .i64 i ∧ Below w.heap.size w wr) (fun v4 _ => n - (intOf v4).toNat)
  case atStart => exact ⟨0, Nat.zero_le _, rfl, E⟩
  case round =>
    clear E
    obtain ⟨i, hi, rfl, E⟩ := hrel
    by_cases hlt : i < n
    · rcases hF with h | ⟨b, off, rfl, h⟩
      · omega
      have hx := hz i hlt
      have hcell := h i hlt
      have EI := EJ i hlt
      by_cases e0 : isN (z i) = true
      · have HL : lsN 9214871658872686752 J = true := by rw [EI.2 (by unfold okJ; rw [e0]; rfl)]; exact lsInf
        refine wp_seq ?_
        refine wq fun Q hQ => ?_
        refine sm (.int .i64 (i : Nat)) 18 rfl rfl rfl rfl ?_
        simp only [zp]
        refine sm (.slice (some ⟨b, off, none⟩) n c) 19 rfl rfl rfl rfl ?_
        simp only [zp]
        refine sv (.int .i64 (n : Nat)) 20 rfl rfl (ex_len rfl rfl (len22 _ _ _ _ _)) ?_
        simp only [zp]
        refine sv (.bool true) 21 rfl rfl (ex_bin (u := (.int .i64 (i : Nat))) (r := (.int .i64 (n : Nat))) rfl rfl rfl (eg3 _ _ _ _ _ _) (lss3 _ (decide_eq_true (by omega)))) ?_
        simp only [zp]
        refine st_end ?_
        subst hQ
        refine wp_cond_true rfl ?_
        refine wp_skip ?_
        refine wp_seq ?_
        refine wp_block ?_
        refine wq fun Q hQ => ?_
        refine sm (.slice (some ⟨b, off, none⟩) n c) 24 rfl rfl rfl rfl ?_
        simp only [zp]
        refine sm (.int .i64 (i : Nat)) 25 rfl rfl rfl rfl ?_
        simp only [zp]
        refine sv (.pointer (some ⟨b, (off + i), none⟩)) 26 rfl rfl (ex_ixF rfl rfl rfl hlt) ?_
        simp only [zp]
        refine sv (.float .f64 (z i)) 27 rfl rfl (ex_load rfl rfl (ld23 ((E.cell (block_lt_of_cell hcell)).trans hcell))) ?_
        simp only [zp]
        refine sv (.bool false) 28 rfl rfl (ex_bin rfl rfl rfl (egF _ _ _ _ _ _) (geqF _ (no_ge (.inl e0)))) ?_
        simp only [zp]
        refine sv (.bool true) 29 rfl rfl (ex_not rfl rfl rfl) ?_
        simp only [zp]
        refine sm (.bool true) 30 rfl rfl rfl rfl ?_
        simp only [zp]
        refine sm (.float .f64 J) 31 rfl rfl rfl rfl ?_
        simp only [zp]
        refine st_call (some 32) rfl rfl (sless_any 9214871658872686752 J wr HL) (ex_call (f := 7) (vs := [(.float .f64 9214871658872686752), (.float .f64 J)]) rfl (cf7 _) rfl) ?_
        rintro e W3 ⟨rfl, B⟩
        refine ⟨_, rfl, ?_⟩
        simp only [zp]
        replace E := below_next E B
        refine sv (.bool false) 33 rfl rfl (ex_not rfl rfl rfl) ?_
        simp only [zp]
        refine sv (.bool false) 34 rfl rfl (ex_pkT rfl rfl rfl) ?_
        simp only [zp]
        refine sm (.bool false) 35 rfl rfl rfl rfl ?_
        simp only [zp]
        refine sm (.slice (some ⟨b, off, none⟩) n c) 36 rfl rfl rfl rfl ?_
        simp only [zp]
        refine sm (.int .i64 (i : Nat)) 37 rfl rfl rfl rfl ?_
        simp only [zp]
        refine sv (.pointer (some ⟨b, (off + i), none⟩)) 38 rfl rfl (ex_ixF rfl rfl rfl hlt) ?_
        simp only [zp]
        refine sv (.float .f64 (z i)) 39 rfl rfl (ex_load rfl rfl (ld23 ((E.cell (block_lt_of_cell hcell)).trans hcell))) ?_
        simp only [zp]
        refine sv (.bool false) 40 rfl rfl (ex_bin rfl rfl rfl (egF _ _ _ _ _ _) (geqF _ (no_ge (.inl e0)))) ?_
        simp only [zp]
        refine sm (.bool false) 41 rfl rfl rfl rfl ?_
        simp only [zp]
        refine sn 42 rfl rfl ?_
        simp only [zp]
        refine sn 43 rfl rfl ?_
        simp only [zp]
        refine sn 44 rfl rfl ?_
        simp only [zp]
        refine sn 45 rfl rfl ?_
        simp only [zp]
        refine sn 46 rfl rfl ?_
        simp only [zp]
        refine sn 47 rfl rfl ?_
        simp only [zp]
        refine sv (.bool false) 48 rfl rfl (ex_pkF rfl rfl rfl) ?_
        simp only [zp]
        refine sv (.bool false) 49 rfl rfl (ex_pkF rfl rfl rfl) ?_
        simp only [zp]
        refine st_end ?_
        subst hQ
        refine wp_cond_false rfl ?_
        refine wp_skip ?_
        refine wl_in (wl_cap fun Q hQ => ?_)
        refine sm (.int .i64 (i : Nat)) 22 rfl rfl rfl rfl ?_
        simp only [zp]
        refine sv (.int .i64 ((i + 1 : Nat) : Int)) 23 rfl rfl (ex_bin rfl rfl rfl (eg3 _ _ _ _ _ _) (add3 _ (by omega) (by omega))) ?_
        simp only [zp]
        refine sg (.int .i64 ((i + 1 : Nat) : Int)) 4 rfl rfl rfl rfl ?_
        simp only [zp]
        refine st_end ?_
        subst hQ
        refine then_go ?_
        go_roundw
        case rel => exact ⟨i + 1, by omega, rfl, E⟩
        case measure => simp [intOf]; omega
      replace e0 := Bool.eq_false_iff.2 e0
      by_cases e1 : 0 ≤ key (z i)
      · have HK : key (z i) ≤ key J := by
          cases hk : okJ (z i) with
          | true => exact EI.1 hk
          | false =>
            rw [EI.2 hk, key_pos (x := 9218868437227405312) (by decide)]
            rcases not_below hx e0 e1 with q | q
            · rw [q, show key 9223372036854775808 = 0 from by decide +kernel]; exact Int.natCast_nonneg _
            · rw [key_pos q]; have := iv_le q; omega
        refine wp_seq ?_
        refine wq fun Q hQ => ?_
        refine sm (.int .i64 (i : Nat)) 18 rfl rfl rfl rfl ?_
        simp only [zp]
        refine sm (.slice (some ⟨b, off, none⟩) n c) 19 rfl rfl rfl rfl ?_
        simp only [zp]
        refine sv (.int .i64 (n : Nat)) 20 rfl rfl (ex_len rfl rfl (len22 _ _ _ _ _)) ?_
        simp only [zp]
        refine sv (.bool true) 21 rfl rfl (ex_bin (u := (.int .i64 (i : Nat))) (r := (.int .i64 (n : Nat))) rfl rfl rfl (eg3 _ _ _ _ _ _) (lss3 _ (decide_eq_true (by omega)))) ?_
        simp only [zp]
        refine st_end ?_
        subst hQ
        refine wp_cond_true rfl ?_
        refine wp_skip ?_
        refine wp_seq ?_
        refine wp_block ?_
        refine wq fun Q hQ => ?_
        refine sm (.slice (some ⟨b, off, none⟩) n c) 24 rfl rfl rfl rfl ?_
        simp only [zp]
        refine sm (.int .i64 (i : Nat)) 25 rfl rfl rfl rfl ?_
        simp only [zp]
        refine sv (.pointer (some ⟨b, (off + i), none⟩)) 26 rfl rfl (ex_ixF rfl rfl rfl hlt) ?_
        simp only [zp]
        refine sv (.float .f64 (z i)) 27 rfl rfl (ex_load rfl rfl (ld23 ((E.cell (block_lt_of_cell hcell)).trans hcell))) ?_
        simp only [zp]
        refine sv (.bool true) 28 rfl rfl (ex_bin rfl rfl rfl (egF _ _ _ _ _ _) (geqF _ (is_ge e0 N0 (decide_eq_true (by rw [key_zero]; omega))))) ?_
        simp only [zp]
        refine sv (.bool false) 29 rfl rfl (ex_not rfl rfl rfl) ?_
        simp only [zp]
        refine sm (.bool false) 30 rfl rfl rfl rfl ?_
        simp only [zp]
        refine sn 31 rfl rfl ?_
        simp only [zp]
        refine sn 32 rfl rfl ?_
        simp only [zp]
        refine sn 33 rfl rfl ?_
        simp only [zp]
        refine sv (.bool false) 34 rfl rfl (ex_pkF rfl rfl rfl) ?_
        simp only [zp]
        refine sm (.bool false) 35 rfl rfl rfl rfl ?_
        simp only [zp]
        refine sm (.slice (some ⟨b, off, none⟩) n c) 36 rfl rfl rfl rfl ?_
        simp only [zp]
        refine sm (.int .i64 (i : Nat)) 37 rfl rfl rfl rfl ?_
        simp only [zp]
        refine sv (.pointer (some ⟨b, (off + i), none⟩)) 38 rfl rfl (ex_ixF rfl rfl rfl hlt) ?_
        simp only [zp]
        refine sv (.float .f64 (z i)) 39 rfl rfl (ex_load rfl rfl (ld23 ((E.cell (block_lt_of_cell hcell)).trans hcell))) ?_
        simp only [zp]
        refine sv (.bool true) 40 rfl rfl (ex_bin rfl rfl rfl (egF _ _ _ _ _ _) (geqF _ (is_ge e0 N0 (decide_eq_true (by rw [key_zero]; omega))))) ?_
        simp only [zp]
        refine sm (.bool true) 41 rfl rfl rfl rfl ?_
        simp only [zp]
        refine sm (.float .f64 J) 42 rfl rfl rfl rfl ?_
        simp only [zp]
        refine sm (.slice (some ⟨b, off, none⟩) n c) 43 rfl rfl rfl rfl ?_
        simp only [zp]
        refine sm (.int .i64 (i : Nat)) 44 rfl rfl rfl rfl ?_
        simp only [zp]
        refine sv (.pointer (some ⟨b, (off + i), none⟩)) 45 rfl rfl (ex_ixF rfl rfl rfl hlt) ?_
        simp only [zp]
        refine sv (.float .f64 (z i)) 46 rfl rfl (ex_load rfl rfl (ld23 ((E.cell (block_lt_of_cell hcell)).trans hcell))) ?_
        simp only [zp]
        refine sv (.bool false) 47 rfl rfl (ex_bin rfl rfl rfl (egF _ _ _ _ _ _) (lssF _ (is_lt NJ e0 (decide_eq_false (by omega))))) ?_
        simp only [zp]
        refine sv (.bool false) 48 rfl rfl (ex_pkT rfl rfl rfl) ?_
        simp only [zp]
        refine sv (.bool false) 49 rfl rfl (ex_pkF rfl rfl rfl) ?_
        simp only [zp]
        refine st_end ?_
        subst hQ
        refine wp_cond_false rfl ?_
        refine wp_skip ?_
        refine wl_in (wl_cap fun Q hQ => ?_)
        refine sm (.int .i64 (i : Nat)) 22 rfl rfl rfl rfl ?_
        simp only [zp]
        refine sv (.int .i64 ((i + 1 : Nat) : Int)) 23 rfl rfl (ex_bin rfl rfl rfl (eg3 _ _ _ _ _ _) (add3 _ (by omega) (by omega))) ?_
        simp only [zp]
        refine sg (.int .i64 ((i + 1 : Nat) : Int)) 4 rfl rfl rfl rfl ?_
        simp only [zp]
        refine st_end ?_
        subst hQ
        refine then_go ?_
        go_roundw
        case rel => exact ⟨i + 1, by omega, rfl, E⟩
        case measure => simp [intOf]; omega
      · have HL : lsN 9214871658872686752 J = true := by rw [EI.2 (by unfold okJ; rw [decide_eq_false e1]; simp)]; exact lsInf
        refine wp_seq ?_
        refine wq fun Q hQ => ?_
        refine sm (.int .i64 (i : Nat)) 18 rfl rfl rfl rfl ?_
        simp only [zp]
        refine sm (.slice (some ⟨b, off, none⟩) n c) 19 rfl rfl rfl rfl ?_
        simp only [zp]
        refine sv (.int .i64 (n : Nat)) 20 rfl rfl (ex_len rfl rfl (len22 _ _ _ _ _)) ?_
        simp only [zp]
        refine sv (.bool true) 21 rfl rfl (ex_bin (u := (.int .i64 (i : Nat))) (r := (.int .i64 (n : Nat))) rfl rfl rfl (eg3 _ _ _ _ _ _) (lss3 _ (decide_eq_true (by omega)))) ?_
        simp only [zp]
        refine st_end ?_
        subst hQ
        refine wp_cond_true rfl ?_
        refine wp_skip ?_
        refine wp_seq ?_
        refine wp_block ?_
        refine wq fun Q hQ => ?_
        refine sm (.slice (some ⟨b, off, none⟩) n c) 24 rfl rfl rfl rfl ?_
        simp only [zp]
        refine sm (.int .i64 (i : Nat)) 25 rfl rfl rfl rfl ?_
        simp only [zp]
        refine sv (.pointer (some ⟨b, (off + i), none⟩)) 26 rfl rfl (ex_ixF rfl rfl rfl hlt) ?_
        simp only [zp]
        refine sv (.float .f64 (z i)) 27 rfl rfl (ex_load rfl rfl (ld23 ((E.cell (block_lt_of_cell hcell)).trans hcell))) ?_
        simp only [zp]
        refine sv (.bool false) 28 rfl rfl (ex_bin rfl rfl rfl (egF _ _ _ _ _ _) (geqF _ (is_ge e0 N0 (decide_eq_false (by rw [key_zero]; omega))))) ?_
        simp only [zp]
        refine sv (.bool true) 29 rfl rfl (ex_not rfl rfl rfl) ?_
        simp only [zp]
        refine sm (.bool true) 30 rfl rfl rfl rfl ?_
        simp only [zp]
        refine sm (.float .f64 J) 31 rfl rfl rfl rfl ?_
        simp only [zp]
        refine st_call (some 32) rfl rfl (sless_any 9214871658872686752 J wr HL) (ex_call (f := 7) (vs := [(.float .f64 9214871658872686752), (.float .f64 J)]) rfl (cf7 _) rfl) ?_
        rintro e W4 ⟨rfl, B⟩
        refine ⟨_, rfl, ?_⟩
        simp only [zp]
        replace E := below_next E B
        refine sv (.bool false) 33 rfl rfl (ex_not rfl rfl rfl) ?_
        simp only [zp]
        refine sv (.bool false) 34 rfl rfl (ex_pkT rfl rfl rfl) ?_
        simp only [zp]
        refine sm (.bool false) 35 rfl rfl rfl rfl ?_
        simp only [zp]
        refine sm (.slice (some ⟨b, off, none⟩) n c) 36 rfl rfl rfl rfl ?_
        simp only [zp]
        refine sm (.int .i64 (i : Nat)) 37 rfl rfl rfl rfl ?_
        simp only [zp]
        refine sv (.pointer (some ⟨b, (off + i), none⟩)) 38 rfl rfl (ex_ixF rfl rfl rfl hlt) ?_
        simp only [zp]
        refine sv (.float .f64 (z i)) 39 rfl rfl (ex_load rfl rfl (ld23 ((E.cell (block_lt_of_cell hcell)).trans hcell))) ?_
        simp only [zp]
        refine sv (.bool false) 40 rfl rfl (ex_bin rfl rfl rfl (egF _ _ _ _ _ _) (geqF _ (is_ge e0 N0 (decide_eq_false (by rw [key_zero]; omega))))) ?_
        simp only [zp]
        refine sm (.bool false) 41 rfl rfl rfl rfl ?_
        simp only [zp]
        refine sn 42 rfl rfl ?_
        simp only [zp]
        refine sn 43 rfl rfl ?_
        simp only [zp]
        refine sn 44 rfl rfl ?_
        simp only [zp]
        refine sn 45 rfl rfl ?_
        simp only [zp]
        refine sn 46 rfl rfl ?_
        simp only [zp]
        refine sn 47 rfl rfl ?_
        simp only [zp]
        refine sv (.bool false) 48 rfl rfl (ex_pkF rfl rfl rfl) ?_
        simp only [zp]
        refine sv (.bool false) 49 rfl rfl (ex_pkF rfl rfl rfl) ?_
        simp only [zp]
        refine st_end ?_
        subst hQ
        refine wp_cond_false rfl ?_
        refine wp_skip ?_
        refine wl_in (wl_cap fun Q hQ => ?_)
        refine sm (.int .i64 (i : Nat)) 22 rfl rfl rfl rfl ?_
        simp only [zp]
        refine sv (.int .i64 ((i + 1 : Nat) : Int)) 23 rfl rfl (ex_bin rfl rfl rfl (eg3 _ _ _ _ _ _) (add3 _ (by omega) (by omega))) ?_
        simp only [zp]
        refine sg (.int .i64 ((i + 1 : Nat) : Int)) 4 rfl rfl rfl rfl ?_
        simp only [zp]
        refine st_end ?_
        subst hQ
        refine then_go ?_
        go_roundw
        case rel => exact ⟨i + 1, by omega, rfl, E⟩
        case measure => simp [intOf]; omega
    · skip
      refine wp_seq ?_
      refine wq fun Q hQ => ?_
      refine sm (.int .i64 (i : Nat)) 18 rfl rfl rfl rfl ?_
      simp only [zp]
      refine sm (.slice ao n c) 19 rfl rfl rfl rfl ?_
      simp only [zp]
      refine sv (.int .i64 (n : Nat)) 20 rfl rfl (ex_len rfl rfl (len22 _ _ _ _ _)) ?_
      simp only [zp]
      refine sv (.bool false) 21 rfl rfl (ex_bin (u := (.int .i64 (i : Nat))) (r := (.int .i64 (n : Nat))) rfl rfl rfl (eg3 _ _ _ _ _ _) (lss3 _ (decide_eq_false (by omega)))) ?_
      simp only [zp]
      refine st_end ?_
      subst hQ
      refine wp_cond_false rfl ?_
      refine wp_exit ?_
      refine ex_then ?_
      refine ex_then ?_
      refine ex_blk ?_
      refine wq fun Q hQ => ?_
      refine sg (.bool true) 2 rfl rfl rfl rfl ?_
      simp only [zp]
      refine st_end ?_
      subst hQ
      refine wp_ret ?_
      repeat (first | refine ret_out ?_ | refine ret_blk ?_)
      exact bodyPost_ret (results_tmp Try.results3 _ _ _) rfl ⟨rfl, E⟩
theorem ls_not {x y : Nat} (hx : x ≤ 9218868437227405312) (hy : y ≤ 9218868437227405312) (h : y ≤ x) : lsN x y = false := by
  unfold lsN
  rw [isN_pos hx, isN_pos hy, key_pos hx, key_pos hy]
  have := iv_le h
  simp
  omega
set_option maxHeartbeats 16000000 in
theorem dear_any {fe mo d : Int} {x y : Nat} (w : World) (hx : x < 18446744073709551616) (hy : y < 18446744073709551616) (f2 : fe ≤ 9223372036854775807) (m2 : mo ≤ 9223372036854775807) (d2 : d ≤ 9223372036854775807) : Calls Try.prog 4 #[.int .i64 fe, .int .i64 mo, .int .i64 d, .float .f64 x, .float .f64 y] w fun e w' => e = .returned (.bool true) ∧ Below w.heap.size w w' := by
  by_cases en : isN x = true ∨ isN y = true
  · skip
    by_cases e0 : fe < 0
    · skip
      have E : Below w.heap.size w w := Below.refl _ _
      go_enter Try.func4, Try.ntmps4
      refine wq fun Q hQ => ?_
      refine sg (.bool false) 10 rfl rfl rfl rfl ?_
      simp only [zp]
      refine st_end ?_
      subst hQ
      refine wp_seq ?_
      refine wq fun Q hQ => ?_
      refine sm (.float .f64 x) 11 rfl rfl rfl rfl ?_
      simp only [zp]
      refine sm (.float .f64 y) 12 rfl rfl rfl rfl ?_
      simp only [zp]
      refine sv (.bool false) 13 rfl rfl (ex_bin rfl rfl rfl (egF _ _ _ _ _ _) (leqF _ (no_le en))) ?_
      simp only [zp]
      refine sv (.bool true) 14 rfl rfl (ex_not rfl rfl rfl) ?_
      simp only [zp]
      refine st_end ?_
      subst hQ
      refine wp_cond_true rfl ?_
      refine wl_in (wl_cap fun Q hQ => ?_)
      refine sm (.float .f64 y) 15 rfl rfl rfl rfl ?_
      simp only [zp]
      refine sm (.float .f64 x) 16 rfl rfl rfl rfl ?_
      simp only [zp]
      refine sg (.float .f64 y) 3 rfl rfl rfl rfl ?_
      simp only [zp]
      refine sg (.float .f64 x) 4 rfl rfl rfl rfl ?_
      simp only [zp]
      refine st_end ?_
      subst hQ
      refine wp_seq ?_
      refine wq fun Q hQ => ?_
      refine st_call (some 17) rfl rfl (lives_any w) (ex_call (f := 6) (vs := []) rfl (cf6 _) rfl) ?_
      rintro e W1 ⟨rfl, B⟩
      refine ⟨_, rfl, ?_⟩
      simp only [zp]
      replace E := below_next E B
      refine sv (.bool false) 18 rfl rfl (ex_not rfl rfl rfl) ?_
      simp only [zp]
      refine sm (.bool false) 19 rfl rfl rfl rfl ?_
      simp only [zp]
      refine sm (.int .i64 fe) 20 rfl rfl rfl rfl ?_
      simp only [zp]
      refine sv (.bool true) 21 rfl rfl (ex_bin (u := (.int .i64 fe)) (r := (.int .i64 0)) rfl rfl rfl (eg3 _ _ _ _ _ _) (lss3 _ (decide_eq_true (by omega)))) ?_
      simp only [zp]
      refine sv (.bool true) 22 rfl rfl (ex_pkF rfl rfl rfl) ?_
      simp only [zp]
      refine sm (.bool true) 23 rfl rfl rfl rfl ?_
      simp only [zp]
      refine sn 24 rfl rfl ?_
      simp only [zp]
      refine sn 25 rfl rfl ?_
      simp only [zp]
      refine sn 26 rfl rfl ?_
      simp only [zp]
      refine sv (.bool true) 27 rfl rfl (ex_pkT rfl rfl rfl) ?_
      simp only [zp]
      refine sm (.bool true) 28 rfl rfl rfl rfl ?_
      simp only [zp]
      refine sn 29 rfl rfl ?_
      simp only [zp]
      refine sn 30 rfl rfl ?_
      simp only [zp]
      refine sv (.bool true) 31 rfl rfl (ex_pkT rfl rfl rfl) ?_
      simp only [zp]
      refine sm (.bool true) 32 rfl rfl rfl rfl ?_
      simp only [zp]
      refine sn 33 rfl rfl ?_
      simp only [zp]
      refine sn 34 rfl rfl ?_
      simp only [zp]
      refine sn 35 rfl rfl ?_
      simp only [zp]
      refine sn 36 rfl rfl ?_
      simp only [zp]
      refine sv (.bool true) 37 rfl rfl (ex_pkT rfl rfl rfl) ?_
      simp only [zp]
      refine st_end ?_
      subst hQ
      refine wp_cond_true rfl ?_
      refine wq fun Q hQ => ?_
      refine st_call (some 38) rfl rfl (lives_any W1) (ex_call (f := 6) (vs := []) rfl (cf6 _) rfl) ?_
      rintro e W2 ⟨rfl, B⟩
      refine ⟨_, rfl, ?_⟩
      simp only [zp]
      replace E := below_next E B
      refine sg (.bool true) 10 rfl rfl rfl rfl ?_
      simp only [zp]
      refine st_end ?_
      subst hQ
      refine wp_ret ?_
      repeat (first | refine ret_out ?_ | refine ret_blk ?_)
      exact bodyPost_ret (results_tmp Try.results4 _ _ _) rfl ⟨rfl, E⟩
    · skip
      by_cases e1 : mo < fe
      · skip
        have E : Below w.heap.size w w := Below.refl _ _
        go_enter Try.func4, Try.ntmps4
        refine wq fun Q hQ => ?_
        refine sg (.bool false) 10 rfl rfl rfl rfl ?_
        simp only [zp]
        refine st_end ?_
        subst hQ
        refine wp_seq ?_
        refine wq fun Q hQ => ?_
        refine sm (.float .f64 x) 11 rfl rfl rfl rfl ?_
        simp only [zp]
        refine sm (.float .f64 y) 12 rfl rfl rfl rfl ?_
        simp only [zp]
        refine sv (.bool false) 13 rfl rfl (ex_bin rfl rfl rfl (egF _ _ _ _ _ _) (leqF _ (no_le en))) ?_
        simp only [zp]
        refine sv (.bool true) 14 rfl rfl (ex_not rfl rfl rfl) ?_
        simp only [zp]
        refine st_end ?_
        subst hQ
        refine wp_cond_true rfl ?_
        refine wl_in (wl_cap fun Q hQ => ?_)
        refine sm (.float .f64 y) 15 rfl rfl rfl rfl ?_
        simp only [zp]
        refine sm (.float .f64 x) 16 rfl rfl rfl rfl ?_
        simp only [zp]
        refine sg (.float .f64 y) 3 rfl rfl rfl rfl ?_
        simp only [zp]
        refine sg (.float .f64 x) 4 rfl rfl rfl rfl ?_
        simp only [zp]
        refine st_end ?_
        subst hQ
        refine wp_seq ?_
        refine wq fun Q hQ => ?_
        refine st_call (some 17) rfl rfl (lives_any w) (ex_call (f := 6) (vs := []) rfl (cf6 _) rfl) ?_
        rintro e W1 ⟨rfl, B⟩
        refine ⟨_, rfl, ?_⟩
        simp only [zp]
        replace E := below_next E B
        refine sv (.bool false) 18 rfl rfl (ex_not rfl rfl rfl) ?_
        simp only [zp]
        refine sm (.bool false) 19 rfl rfl rfl rfl ?_
        simp only [zp]
        refine sm (.int .i64 fe) 20 rfl rfl rfl rfl ?_
        simp only [zp]
        refine sv (.bool false) 21 rfl rfl (ex_bin (u := (.int .i64 fe)) (r := (.int .i64 0)) rfl rfl rfl (eg3 _ _ _ _ _ _) (lss3 _ (decide_eq_false (by omega)))) ?_
        simp only [zp]
        refine sv (.bool false) 22 rfl rfl (ex_pkF rfl rfl rfl) ?_
        simp only [zp]
        refine sm (.bool false) 23 rfl rfl rfl rfl ?_
        simp only [zp]
        refine sm (.int .i64 mo) 24 rfl rfl rfl rfl ?_
        simp only [zp]
        refine sm (.int .i64 fe) 25 rfl rfl rfl rfl ?_
        simp only [zp]
        refine sv (.bool true) 26 rfl rfl (ex_bin (u := (.int .i64 mo)) (r := (.int .i64 fe)) rfl rfl rfl (eg3 _ _ _ _ _ _) (lss3 _ (decide_eq_true (by omega)))) ?_
        simp only [zp]
        refine sv (.bool true) 27 rfl rfl (ex_pkF rfl rfl rfl) ?_
        simp only [zp]
        refine sm (.bool true) 28 rfl rfl rfl rfl ?_
        simp only [zp]
        refine sn 29 rfl rfl ?_
        simp only [zp]
        refine sn 30 rfl rfl ?_
        simp only [zp]
        refine sv (.bool true) 31 rfl rfl (ex_pkT rfl rfl rfl) ?_
        simp only [zp]
        refine sm (.bool true) 32 rfl rfl rfl rfl ?_
        simp only [zp]
        refine sn 33 rfl rfl ?_
        simp only [zp]
        refine sn 34 rfl rfl ?_
        simp only [zp]
        refine sn 35 rfl rfl ?_
        simp only [zp]
        refine sn 36 rfl rfl ?_
        simp only [zp]
        refine sv (.bool true) 37 rfl rfl (ex_pkT rfl rfl rfl) ?_
        simp only [zp]
        refine st_end ?_
        subst hQ
        refine wp_cond_true rfl ?_
        refine wq fun Q hQ => ?_
        refine st_call (some 38) rfl rfl (lives_any W1) (ex_call (f := 6) (vs := []) rfl (cf6 _) rfl) ?_
        rintro e W2 ⟨rfl, B⟩
        refine ⟨_, rfl, ?_⟩
        simp only [zp]
        replace E := below_next E B
        refine sg (.bool true) 10 rfl rfl rfl rfl ?_
        simp only [zp]
        refine st_end ?_
        subst hQ
        refine wp_ret ?_
        repeat (first | refine ret_out ?_ | refine ret_blk ?_)
        exact bodyPost_ret (results_tmp Try.results4 _ _ _) rfl ⟨rfl, E⟩
      · skip
        by_cases e2 : d < 0
        · skip
          have E : Below w.heap.size w w := Below.refl _ _
          go_enter Try.func4, Try.ntmps4
          refine wq fun Q hQ => ?_
          refine sg (.bool false) 10 rfl rfl rfl rfl ?_
          simp only [zp]
          refine st_end ?_
          subst hQ
          refine wp_seq ?_
          refine wq fun Q hQ => ?_
          refine sm (.float .f64 x) 11 rfl rfl rfl rfl ?_
          simp only [zp]
          refine sm (.float .f64 y) 12 rfl rfl rfl rfl ?_
          simp only [zp]
          refine sv (.bool false) 13 rfl rfl (ex_bin rfl rfl rfl (egF _ _ _ _ _ _) (leqF _ (no_le en))) ?_
          simp only [zp]
          refine sv (.bool true) 14 rfl rfl (ex_not rfl rfl rfl) ?_
          simp only [zp]
          refine st_end ?_
          subst hQ
          refine wp_cond_true rfl ?_
          refine wl_in (wl_cap fun Q hQ => ?_)
          refine sm (.float .f64 y) 15 rfl rfl rfl rfl ?_
          simp only [zp]
          refine sm (.float .f64 x) 16 rfl rfl rfl rfl ?_
          simp only [zp]
          refine sg (.float .f64 y) 3 rfl rfl rfl rfl ?_
          simp only [zp]
          refine sg (.float .f64 x) 4 rfl rfl rfl rfl ?_
          simp only [zp]
          refine st_end ?_
          subst hQ
          refine wp_seq ?_
          refine wq fun Q hQ => ?_
          refine st_call (some 17) rfl rfl (lives_any w) (ex_call (f := 6) (vs := []) rfl (cf6 _) rfl) ?_
          rintro e W1 ⟨rfl, B⟩
          refine ⟨_, rfl, ?_⟩
          simp only [zp]
          replace E := below_next E B
          refine sv (.bool false) 18 rfl rfl (ex_not rfl rfl rfl) ?_
          simp only [zp]
          refine sm (.bool false) 19 rfl rfl rfl rfl ?_
          simp only [zp]
          refine sm (.int .i64 fe) 20 rfl rfl rfl rfl ?_
          simp only [zp]
          refine sv (.bool false) 21 rfl rfl (ex_bin (u := (.int .i64 fe)) (r := (.int .i64 0)) rfl rfl rfl (eg3 _ _ _ _ _ _) (lss3 _ (decide_eq_false (by omega)))) ?_
          simp only [zp]
          refine sv (.bool false) 22 rfl rfl (ex_pkF rfl rfl rfl) ?_
          simp only [zp]
          refine sm (.bool false) 23 rfl rfl rfl rfl ?_
          simp only [zp]
          refine sm (.int .i64 mo) 24 rfl rfl rfl rfl ?_
          simp only [zp]
          refine sm (.int .i64 fe) 25 rfl rfl rfl rfl ?_
          simp only [zp]
          refine sv (.bool false) 26 rfl rfl (ex_bin (u := (.int .i64 mo)) (r := (.int .i64 fe)) rfl rfl rfl (eg3 _ _ _ _ _ _) (lss3 _ (decide_eq_false (by omega)))) ?_
          simp only [zp]
          refine sv (.bool false) 27 rfl rfl (ex_pkF rfl rfl rfl) ?_
          simp only [zp]
          refine sm (.bool false) 28 rfl rfl rfl rfl ?_
          simp only [zp]
          refine sm (.int .i64 d) 29 rfl rfl rfl rfl ?_
          simp only [zp]
          refine sv (.bool true) 30 rfl rfl (ex_bin (u := (.int .i64 d)) (r := (.int .i64 0)) rfl rfl rfl (eg3 _ _ _ _ _ _) (lss3 _ (decide_eq_true (by omega)))) ?_
          simp only [zp]
          refine sv (.bool true) 31 rfl rfl (ex_pkF rfl rfl rfl) ?_
          simp only [zp]
          refine sm (.bool true) 32 rfl rfl rfl rfl ?_
          simp only [zp]
          refine sn 33 rfl rfl ?_
          simp only [zp]
          refine sn 34 rfl rfl ?_
          simp only [zp]
          refine sn 35 rfl rfl ?_
          simp only [zp]
          refine sn 36 rfl rfl ?_
          simp only [zp]
          refine sv (.bool true) 37 rfl rfl (ex_pkT rfl rfl rfl) ?_
          simp only [zp]
          refine st_end ?_
          subst hQ
          refine wp_cond_true rfl ?_
          refine wq fun Q hQ => ?_
          refine st_call (some 38) rfl rfl (lives_any W1) (ex_call (f := 6) (vs := []) rfl (cf6 _) rfl) ?_
          rintro e W2 ⟨rfl, B⟩
          refine ⟨_, rfl, ?_⟩
          simp only [zp]
          replace E := below_next E B
          refine sg (.bool true) 10 rfl rfl rfl rfl ?_
          simp only [zp]
          refine st_end ?_
          subst hQ
          refine wp_ret ?_
          repeat (first | refine ret_out ?_ | refine ret_blk ?_)
          exact bodyPost_ret (results_tmp Try.results4 _ _ _) rfl ⟨rfl, E⟩
        · skip
          have E : Below w.heap.size w w := Below.refl _ _
          go_enter Try.func4, Try.ntmps4
          refine wq fun Q hQ => ?_
          refine sg (.bool false) 10 rfl rfl rfl rfl ?_
          simp only [zp]
          refine st_end ?_
          subst hQ
          refine wp_seq ?_
          refine wq fun Q hQ => ?_
          refine sm (.float .f64 x) 11 rfl rfl rfl rfl ?_
          simp only [zp]
          refine sm (.float .f64 y) 12 rfl rfl rfl rfl ?_
          simp only [zp]
          refine sv (.bool false) 13 rfl rfl (ex_bin rfl rfl rfl (egF _ _ _ _ _ _) (leqF _ (no_le en))) ?_
          simp only [zp]
          refine sv (.bool true) 14 rfl rfl (ex_not rfl rfl rfl) ?_
          simp only [zp]
          refine st_end ?_
          subst hQ
          refine wp_cond_true rfl ?_
          refine wl_in (wl_cap fun Q hQ => ?_)
          refine sm (.float .f64 y) 15 rfl rfl rfl rfl ?_
          simp only [zp]
          refine sm (.float .f64 x) 16 rfl rfl rfl rfl ?_
          simp only [zp]
          refine sg (.float .f64 y) 3 rfl rfl rfl rfl ?_
          simp only [zp]
          refine sg (.float .f64 x) 4 rfl rfl rfl rfl ?_
          simp only [zp]
          refine st_end ?_
          subst hQ
          refine wp_seq ?_
          refine wq fun Q hQ => ?_
          refine st_call (some 17) rfl rfl (lives_any w) (ex_call (f := 6) (vs := []) rfl (cf6 _) rfl) ?_
          rintro e W1 ⟨rfl, B⟩
          refine ⟨_, rfl, ?_⟩
          simp only [zp]
          replace E := below_next E B
          refine sv (.bool false) 18 rfl rfl (ex_not rfl rfl rfl) ?_
          simp only [zp]
          refine sm (.bool false) 19 rfl rfl rfl rfl ?_
          simp only [zp]
          refine sm (.int .i64 fe) 20 rfl rfl rfl rfl ?_
          simp only [zp]
          refine sv (.bool false) 21 rfl rfl (ex_bin (u := (.int .i64 fe)) (r := (.int .i64 0)) rfl rfl rfl (eg3 _ _ _ _ _ _) (lss3 _ (decide_eq_false (by omega)))) ?_
          simp only [zp]
          refine sv (.bool false) 22 rfl rfl (ex_pkF rfl rfl rfl) ?_
          simp only [zp]
          refine sm (.bool false) 23 rfl rfl rfl rfl ?_
          simp only [zp]
          refine sm (.int .i64 mo) 24 rfl rfl rfl rfl ?_
          simp only [zp]
          refine sm (.int .i64 fe) 25 rfl rfl rfl rfl ?_
          simp only [zp]
          refine sv (.bool false) 26 rfl rfl (ex_bin (u := (.int .i64 mo)) (r := (.int .i64 fe)) rfl rfl rfl (eg3 _ _ _ _ _ _) (lss3 _ (decide_eq_false (by omega)))) ?_
          simp only [zp]
          refine sv (.bool false) 27 rfl rfl (ex_pkF rfl rfl rfl) ?_
          simp only [zp]
          refine sm (.bool false) 28 rfl rfl rfl rfl ?_
          simp only [zp]
          refine sm (.int .i64 d) 29 rfl rfl rfl rfl ?_
          simp only [zp]
          refine sv (.bool false) 30 rfl rfl (ex_bin (u := (.int .i64 d)) (r := (.int .i64 0)) rfl rfl rfl (eg3 _ _ _ _ _ _) (lss3 _ (decide_eq_false (by omega)))) ?_
          simp only [zp]
          refine sv (.bool false) 31 rfl rfl (ex_pkF rfl rfl rfl) ?_
          simp only [zp]
          refine sm (.bool false) 32 rfl rfl rfl rfl ?_
          simp only [zp]
          refine sm (.float .f64 y) 33 rfl rfl rfl rfl ?_
          simp only [zp]
          refine sm (.float .f64 x) 34 rfl rfl rfl rfl ?_
          simp only [zp]
          refine sv (.bool false) 35 rfl rfl (ex_bin rfl rfl rfl (egF _ _ _ _ _ _) (leqF _ (no_le en.symm))) ?_
          simp only [zp]
          refine sv (.bool true) 36 rfl rfl (ex_not rfl rfl rfl) ?_
          simp only [zp]
          refine sv (.bool true) 37 rfl rfl (ex_pkF rfl rfl rfl) ?_
          simp only [zp]
          refine st_end ?_
          subst hQ
          refine wp_cond_true rfl ?_
          refine wq fun Q hQ => ?_
          refine st_call (some 38) rfl rfl (lives_any W1) (ex_call (f := 6) (vs := []) rfl (cf6 _) rfl) ?_
          rintro e W2 ⟨rfl, B⟩
          refine ⟨_, rfl, ?_⟩
          simp only [zp]
          replace E := below_next E B
          refine sg (.bool true) 10 rfl rfl rfl rfl ?_
          simp only [zp]
          refine st_end ?_
          subst hQ
          refine wp_ret ?_
          repeat (first | refine ret_out ?_ | refine ret_blk ?_)
          exact bodyPost_ret (results_tmp Try.results4 _ _ _) rfl ⟨rfl, E⟩
  have nx : isN x = false := by cases h : isN x with | false => rfl | true => exact absurd (.inl h) en
  have ny : isN y = false := by cases h : isN y with | false => rfl | true => exact absurd (.inr h) en
  by_cases ex : key x ≤ key y
  · skip
    by_cases e0 : fe < 0
    · skip
      have E : Below w.heap.size w w := Below.refl _ _
      go_enter Try.func4, Try.ntmps4
      refine wq fun Q hQ => ?_
      refine sg (.bool false) 10 rfl rfl rfl rfl ?_
      simp only [zp]
      refine st_end ?_
      subst hQ
      refine wp_seq ?_
      refine wq fun Q hQ => ?_
      refine sm (.float .f64 x) 11 rfl rfl rfl rfl ?_
      simp only [zp]
      refine sm (.float .f64 y) 12 rfl rfl rfl rfl ?_
      simp only [zp]
      refine sv (.bool true) 13 rfl rfl (ex_bin rfl rfl rfl (egF _ _ _ _ _ _) (leqF _ (is_le nx ny (decide_eq_true ex)))) ?_
      simp only [zp]
      refine sv (.bool false) 14 rfl rfl (ex_not rfl rfl rfl) ?_
      simp only [zp]
      refine st_end ?_
      subst hQ
      refine wp_cond_false rfl ?_
      refine wp_skip ?_
      refine wp_seq ?_
      refine wq fun Q hQ => ?_
      refine st_call (some 17) rfl rfl (lives_any w) (ex_call (f := 6) (vs := []) rfl (cf6 _) rfl) ?_
      rintro e W1 ⟨rfl, B⟩
      refine ⟨_, rfl, ?_⟩
      simp only [zp]
      replace E := below_next E B
      refine sv (.bool false) 18 rfl rfl (ex_not rfl rfl rfl) ?_
      simp only [zp]
      refine sm (.bool false) 19 rfl rfl rfl rfl ?_
      simp only [zp]
      refine sm (.int .i64 fe) 20 rfl rfl rfl rfl ?_
      simp only [zp]
      refine sv (.bool true) 21 rfl rfl (ex_bin (u := (.int .i64 fe)) (r := (.int .i64 0)) rfl rfl rfl (eg3 _ _ _ _ _ _) (lss3 _ (decide_eq_true (by omega)))) ?_
      simp only [zp]
      refine sv (.bool true) 22 rfl rfl (ex_pkF rfl rfl rfl) ?_
      simp only [zp]
      refine sm (.bool true) 23 rfl rfl rfl rfl ?_
      simp only [zp]
      refine sn 24 rfl rfl ?_
      simp only [zp]
      refine sn 25 rfl rfl ?_
      simp only [zp]
      refine sn 26 rfl rfl ?_
      simp only [zp]
      refine sv (.bool true) 27 rfl rfl (ex_pkT rfl rfl rfl) ?_
      simp only [zp]
      refine sm (.bool true) 28 rfl rfl rfl rfl ?_
      simp only [zp]
      refine sn 29 rfl rfl ?_
      simp only [zp]
      refine sn 30 rfl rfl ?_
      simp only [zp]
      refine sv (.bool true) 31 rfl rfl (ex_pkT rfl rfl rfl) ?_
      simp only [zp]
      refine sm (.bool true) 32 rfl rfl rfl rfl ?_
      simp only [zp]
      refine sn 33 rfl rfl ?_
      simp only [zp]
      refine sn 34 rfl rfl ?_
      simp only [zp]
      refine sn 35 rfl rfl ?_
      simp only [zp]
      refine sn 36 rfl rfl ?_
      simp only [zp]
      refine sv (.bool true) 37 rfl rfl (ex_pkT rfl rfl rfl) ?_
      simp only [zp]
      refine st_end ?_
      subst hQ
      refine wp_cond_true rfl ?_
      refine wq fun Q hQ => ?_
      refine st_call (some 38) rfl rfl (lives_any W1) (ex_call (f := 6) (vs := []) rfl (cf6 _) rfl) ?_
      rintro e W2 ⟨rfl, B⟩
      refine ⟨_, rfl, ?_⟩
      simp only [zp]
      replace E := below_next E B
      refine sg (.bool true) 10 rfl rfl rfl rfl ?_
      simp only [zp]
      refine st_end ?_
      subst hQ
      refine wp_ret ?_
      repeat (first | refine ret_out ?_ | refine ret_blk ?_)
      exact bodyPost_ret (results_tmp Try.results4 _ _ _) rfl ⟨rfl, E⟩
    · skip
      by_cases e1 : mo < fe
      · skip
        have E : Below w.heap.size w w := Below.refl _ _
        go_enter Try.func4, Try.ntmps4
        refine wq fun Q hQ => ?_
        refine sg (.bool false) 10 rfl rfl rfl rfl ?_
        simp only [zp]
        refine st_end ?_
        subst hQ
        refine wp_seq ?_
        refine wq fun Q hQ => ?_
        refine sm (.float .f64 x) 11 rfl rfl rfl rfl ?_
        simp only [zp]
        refine sm (.float .f64 y) 12 rfl rfl rfl rfl ?_
        simp only [zp]
        refine sv (.bool true) 13 rfl rfl (ex_bin rfl rfl rfl (egF _ _ _ _ _ _) (leqF _ (is_le nx ny (decide_eq_true ex)))) ?_
        simp only [zp]
        refine sv (.bool false) 14 rfl rfl (ex_not rfl rfl rfl) ?_
        simp only [zp]
        refine st_end ?_
        subst hQ
        refine wp_cond_false rfl ?_
        refine wp_skip ?_
        refine wp_seq ?_
        refine wq fun Q hQ => ?_
        refine st_call (some 17) rfl rfl (lives_any w) (ex_call (f := 6) (vs := []) rfl (cf6 _) rfl) ?_
        rintro e W1 ⟨rfl, B⟩
        refine ⟨_, rfl, ?_⟩
        simp only [zp]
        replace E := below_next E B
        refine sv (.bool false) 18 rfl rfl (ex_not rfl rfl rfl) ?_
        simp only [zp]
        refine sm (.bool false) 19 rfl rfl rfl rfl ?_
        simp only [zp]
        refine sm (.int .i64 fe) 20 rfl rfl rfl rfl ?_
        simp only [zp]
        refine sv (.bool false) 21 rfl rfl (ex_bin (u := (.int .i64 fe)) (r := (.int .i64 0)) rfl rfl rfl (eg3 _ _ _ _ _ _) (lss3 _ (decide_eq_false (by omega)))) ?_
        simp only [zp]
        refine sv (.bool false) 22 rfl rfl (ex_pkF rfl rfl rfl) ?_
        simp only [zp]
        refine sm (.bool false) 23 rfl rfl rfl rfl ?_
        simp only [zp]
        refine sm (.int .i64 mo) 24 rfl rfl rfl rfl ?_
        simp only [zp]
        refine sm (.int .i64 fe) 25 rfl rfl rfl rfl ?_
        simp only [zp]
        refine sv (.bool true) 26 rfl rfl (ex_bin (u := (.int .i64 mo)) (r := (.int .i64 fe)) rfl rfl rfl (eg3 _ _ _ _ _ _) (lss3 _ (decide_eq_true (by omega)))) ?_
        simp only [zp]
        refine sv (.bool true) 27 rfl rfl (ex_pkF rfl rfl rfl) ?_
        simp only [zp]
        refine sm (.bool true) 28 rfl rfl rfl rfl ?_
        simp only [zp]
        refine sn 29 rfl rfl ?_
        simp only [zp]
        refine sn 30 rfl rfl ?_
        simp only [zp]
        refine sv (.bool true) 31 rfl rfl (ex_pkT rfl rfl rfl) ?_
        simp only [zp]
        refine sm (.bool true) 32 rfl rfl rfl rfl ?_
        simp only [zp]
        refine sn 33 rfl rfl ?_
        simp only [zp]
        refine sn 34 rfl rfl ?_
        simp only [zp]
        refine sn 35 rfl rfl ?_
        simp only [zp]
        refine sn 36 rfl rfl ?_
        simp only [zp]
        refine sv (.bool true) 37 rfl rfl (ex_pkT rfl rfl rfl) ?_
        simp only [zp]
        refine st_end ?_
        subst hQ
        refine wp_cond_true rfl ?_
        refine wq fun Q hQ => ?_
        refine st_call (some 38) rfl rfl (lives_any W1) (ex_call (f := 6) (vs := []) rfl (cf6 _) rfl) ?_
        rintro e W2 ⟨rfl, B⟩
        refine ⟨_, rfl, ?_⟩
        simp only [zp]
        replace E := below_next E B
        refine sg (.bool true) 10 rfl rfl rfl rfl ?_
        simp only [zp]
        refine st_end ?_
        subst hQ
        refine wp_ret ?_
        repeat (first | refine ret_out ?_ | refine ret_blk ?_)
        exact bodyPost_ret (results_tmp Try.results4 _ _ _) rfl ⟨rfl, E⟩
      · skip
        by_cases e2 : d < 0
        · skip
          have E : Below w.heap.size w w := Below.refl _ _
          go_enter Try.func4, Try.ntmps4
          refine wq fun Q hQ => ?_
          refine sg (.bool false) 10 rfl rfl rfl rfl ?_
          simp only [zp]
          refine st_end ?_
          subst hQ
          refine wp_seq ?_
          refine wq fun Q hQ => ?_
          refine sm (.float .f64 x) 11 rfl rfl rfl rfl ?_
          simp only [zp]
          refine sm (.float .f64 y) 12 rfl rfl rfl rfl ?_
          simp only [zp]
          refine sv (.bool true) 13 rfl rfl (ex_bin rfl rfl rfl (egF _ _ _ _ _ _) (leqF _ (is_le nx ny (decide_eq_true ex)))) ?_
          simp only [zp]
          refine sv (.bool false) 14 rfl rfl (ex_not rfl rfl rfl) ?_
          simp only [zp]
          refine st_end ?_
          subst hQ
          refine wp_cond_false rfl ?_
          refine wp_skip ?_
          refine wp_seq ?_
          refine wq fun Q hQ => ?_
          refine st_call (some 17) rfl rfl (lives_any w) (ex_call (f := 6) (vs := []) rfl (cf6 _) rfl) ?_
          rintro e W1 ⟨rfl, B⟩
          refine ⟨_, rfl, ?_⟩
          simp only [zp]
          replace E := below_next E B
          refine sv (.bool false) 18 rfl rfl (ex_not rfl rfl rfl) ?_
          simp only [zp]
          refine sm (.bool false) 19 rfl rfl rfl rfl ?_
          simp only [zp]
          refine sm (.int .i64 fe) 20 rfl rfl rfl rfl ?_
          simp only [zp]
          refine sv (.bool false) 21 rfl rfl (ex_bin (u := (.int .i64 fe)) (r := (.int .i64 0)) rfl rfl rfl (eg3 _ _ _ _ _ _) (lss3 _ (decide_eq_false (by omega)))) ?_
          simp only [zp]
          refine sv (.bool false) 22 rfl rfl (ex_pkF rfl rfl rfl) ?_
          simp only [zp]
          refine sm (.bool false) 23 rfl rfl rfl rfl ?_
          simp only [zp]
          refine sm (.int .i64 mo) 24 rfl rfl rfl rfl ?_
          simp only [zp]
          refine sm (.int .i64 fe) 25 rfl rfl rfl rfl ?_
          simp only [zp]
          refine sv (.bool false) 26 rfl rfl (ex_bin (u := (.int .i64 mo)) (r := (.int .i64 fe)) rfl rfl rfl (eg3 _ _ _ _ _ _) (lss3 _ (decide_eq_false (by omega)))) ?_
          simp only [zp]
          refine sv (.bool false) 27 rfl rfl (ex_pkF rfl rfl rfl) ?_
          simp only [zp]
          refine sm (.bool false) 28 rfl rfl rfl rfl ?_
          simp only [zp]
          refine sm (.int .i64 d) 29 rfl rfl rfl rfl ?_
          simp only [zp]
          refine sv (.bool true) 30 rfl rfl (ex_bin (u := (.int .i64 d)) (r := (.int .i64 0)) rfl rfl rfl (eg3 _ _ _ _ _ _) (lss3 _ (decide_eq_true (by omega)))) ?_
          simp only [zp]
          refine sv (.bool true) 31 rfl rfl (ex_pkF rfl rfl rfl) ?_
          simp only [zp]
          refine sm (.bool true) 32 rfl rfl rfl rfl ?_
          simp only [zp]
          refine sn 33 rfl rfl ?_
          simp only [zp]
          refine sn 34 rfl rfl ?_
          simp only [zp]
          refine sn 35 rfl rfl ?_
          simp only [zp]
          refine sn 36 rfl rfl ?_
          simp only [zp]
          refine sv (.bool true) 37 rfl rfl (ex_pkT rfl rfl rfl) ?_
          simp only [zp]
          refine st_end ?_
          subst hQ
          refine wp_cond_true rfl ?_
          refine wq fun Q hQ => ?_
          refine st_call (some 38) rfl rfl (lives_any W1) (ex_call (f := 6) (vs := []) rfl (cf6 _) rfl) ?_
          rintro e W2 ⟨rfl, B⟩
          refine ⟨_, rfl, ?_⟩
          simp only [zp]
          replace E := below_next E B
          refine sg (.bool true) 10 rfl rfl rfl rfl ?_
          simp only [zp]
          refine st_end ?_
          subst hQ
          refine wp_ret ?_
          repeat (first | refine ret_out ?_ | refine ret_blk ?_)
          exact bodyPost_ret (results_tmp Try.results4 _ _ _) rfl ⟨rfl, E⟩
        · skip
          have CM := cln_mono (x := x) (y := y) hx hy nx ny (by omega)
          have L1 := ls_not (costN_le fe d x hx f2 d2) (costN_le fe d y hy f2 d2) (costN_mono hy hx (Int.le_refl fe) f2 d2 (by omega) (by omega) CM)
          have L2 := ls_not (costN_le mo d x hx m2 d2) (costN_le fe d x hx f2 d2) (costN_mono hx hx (show fe ≤ mo by omega) m2 d2 (by omega) (by omega) (Nat.le_refl _))
          have E : Below w.heap.size w w := Below.refl _ _
          go_enter Try.func4, Try.ntmps4
          refine wq fun Q hQ => ?_
          refine sg (.bool false) 10 rfl rfl rfl rfl ?_
          simp only [zp]
          refine st_end ?_
          subst hQ
          refine wp_seq ?_
          refine wq fun Q hQ => ?_
          refine sm (.float .f64 x) 11 rfl rfl rfl rfl ?_
          simp only [zp]
          refine sm (.float .f64 y) 12 rfl rfl rfl rfl ?_
          simp only [zp]
          refine sv (.bool true) 13 rfl rfl (ex_bin rfl rfl rfl (egF _ _ _ _ _ _) (leqF _ (is_le nx ny (decide_eq_true ex)))) ?_
          simp only [zp]
          refine sv (.bool false) 14 rfl rfl (ex_not rfl rfl rfl) ?_
          simp only [zp]
          refine st_end ?_
          subst hQ
          refine wp_cond_false rfl ?_
          refine wp_skip ?_
          refine wp_seq ?_
          refine wq fun Q hQ => ?_
          refine st_call (some 17) rfl rfl (lives_any w) (ex_call (f := 6) (vs := []) rfl (cf6 _) rfl) ?_
          rintro e W1 ⟨rfl, B⟩
          refine ⟨_, rfl, ?_⟩
          simp only [zp]
          replace E := below_next E B
          refine sv (.bool false) 18 rfl rfl (ex_not rfl rfl rfl) ?_
          simp only [zp]
          refine sm (.bool false) 19 rfl rfl rfl rfl ?_
          simp only [zp]
          refine sm (.int .i64 fe) 20 rfl rfl rfl rfl ?_
          simp only [zp]
          refine sv (.bool false) 21 rfl rfl (ex_bin (u := (.int .i64 fe)) (r := (.int .i64 0)) rfl rfl rfl (eg3 _ _ _ _ _ _) (lss3 _ (decide_eq_false (by omega)))) ?_
          simp only [zp]
          refine sv (.bool false) 22 rfl rfl (ex_pkF rfl rfl rfl) ?_
          simp only [zp]
          refine sm (.bool false) 23 rfl rfl rfl rfl ?_
          simp only [zp]
          refine sm (.int .i64 mo) 24 rfl rfl rfl rfl ?_
          simp only [zp]
          refine sm (.int .i64 fe) 25 rfl rfl rfl rfl ?_
          simp only [zp]
          refine sv (.bool false) 26 rfl rfl (ex_bin (u := (.int .i64 mo)) (r := (.int .i64 fe)) rfl rfl rfl (eg3 _ _ _ _ _ _) (lss3 _ (decide_eq_false (by omega)))) ?_
          simp only [zp]
          refine sv (.bool false) 27 rfl rfl (ex_pkF rfl rfl rfl) ?_
          simp only [zp]
          refine sm (.bool false) 28 rfl rfl rfl rfl ?_
          simp only [zp]
          refine sm (.int .i64 d) 29 rfl rfl rfl rfl ?_
          simp only [zp]
          refine sv (.bool false) 30 rfl rfl (ex_bin (u := (.int .i64 d)) (r := (.int .i64 0)) rfl rfl rfl (eg3 _ _ _ _ _ _) (lss3 _ (decide_eq_false (by omega)))) ?_
          simp only [zp]
          refine sv (.bool false) 31 rfl rfl (ex_pkF rfl rfl rfl) ?_
          simp only [zp]
          refine sm (.bool false) 32 rfl rfl rfl rfl ?_
          simp only [zp]
          refine sm (.float .f64 x) 33 rfl rfl rfl rfl ?_
          simp only [zp]
          refine sm (.float .f64 y) 34 rfl rfl rfl rfl ?_
          simp only [zp]
          refine sv (.bool true) 35 rfl rfl (ex_bin rfl rfl rfl (egF _ _ _ _ _ _) (leqF _ (is_le nx ny (decide_eq_true (by omega))))) ?_
          simp only [zp]
          refine sv (.bool false) 36 rfl rfl (ex_not rfl rfl rfl) ?_
          simp only [zp]
          refine sv (.bool false) 37 rfl rfl (ex_pkF rfl rfl rfl) ?_
          simp only [zp]
          refine st_end ?_
          subst hQ
          refine wp_cond_false rfl ?_
          refine wp_skip ?_
          refine wq fun Q hQ => ?_
          refine sm (.int .i64 fe) 39 rfl rfl rfl rfl ?_
          simp only [zp]
          refine sm (.int .i64 d) 40 rfl rfl rfl rfl ?_
          simp only [zp]
          refine sm (.float .f64 x) 41 rfl rfl rfl rfl ?_
          simp only [zp]
          refine st_call (some 42) rfl rfl (scost_any fe d x W1 hx f2 d2) (ex_call (f := 8) (vs := [(.int .i64 fe), (.int .i64 d), (.float .f64 x)]) rfl (cf8 _) rfl) ?_
          rintro e W2 ⟨rfl, B⟩
          refine ⟨_, rfl, ?_⟩
          simp only [zp]
          replace E := below_next E B
          refine sm (.int .i64 fe) 43 rfl rfl rfl rfl ?_
          simp only [zp]
          refine sm (.int .i64 d) 44 rfl rfl rfl rfl ?_
          simp only [zp]
          refine sm (.float .f64 y) 45 rfl rfl rfl rfl ?_
          simp only [zp]
          refine st_call (some 46) rfl rfl (scost_any fe d y W2 hy f2 d2) (ex_call (f := 8) (vs := [(.int .i64 fe), (.int .i64 d), (.float .f64 y)]) rfl (cf8 _) rfl) ?_
          rintro e W3 ⟨rfl, B⟩
          refine ⟨_, rfl, ?_⟩
          simp only [zp]
          replace E := below_next E B
          refine st_call (some 47) rfl rfl (sless_any _ _ W3 L1) (ex_call (f := 7) (vs := [(.float .f64 (costN fe d x)), (.float .f64 (costN fe d y))]) rfl (cf7 _) rfl) ?_
          rintro e W4 ⟨rfl, B⟩
          refine ⟨_, rfl, ?_⟩
          simp only [zp]
          replace E := below_next E B
          refine sv (.bool true) 48 rfl rfl (ex_not rfl rfl rfl) ?_
          simp only [zp]
          refine sm (.bool true) 49 rfl rfl rfl rfl ?_
          simp only [zp]
          refine sm (.int .i64 mo) 50 rfl rfl rfl rfl ?_
          simp only [zp]
          refine sm (.int .i64 d) 51 rfl rfl rfl rfl ?_
          simp only [zp]
          refine sm (.float .f64 x) 52 rfl rfl rfl rfl ?_
          simp only [zp]
          refine st_call (some 53) rfl rfl (scost_any mo d x W4 hx m2 d2) (ex_call (f := 8) (vs := [(.int .i64 mo), (.int .i64 d), (.float .f64 x)]) rfl (cf8 _) rfl) ?_
          rintro e W5 ⟨rfl, B⟩
          refine ⟨_, rfl, ?_⟩
          simp only [zp]
          replace E := below_next E B
          refine sm (.int .i64 fe) 54 rfl rfl rfl rfl ?_
          simp only [zp]
          refine sm (.int .i64 d) 55 rfl rfl rfl rfl ?_
          simp only [zp]
          refine sm (.float .f64 x) 56 rfl rfl rfl rfl ?_
          simp only [zp]
          refine st_call (some 57) rfl rfl (scost_any fe d x W5 hx f2 d2) (ex_call (f := 8) (vs := [(.int .i64 fe), (.int .i64 d), (.float .f64 x)]) rfl (cf8 _) rfl) ?_
          rintro e W6 ⟨rfl, B⟩
          refine ⟨_, rfl, ?_⟩
          simp only [zp]
          replace E := below_next E B
          refine st_call (some 58) rfl rfl (sless_any _ _ W6 L2) (ex_call (f := 7) (vs := [(.float .f64 (costN mo d x)), (.float .f64 (costN fe d x))]) rfl (cf7 _) rfl) ?_
          rintro e W7 ⟨rfl, B⟩
          refine ⟨_, rfl, ?_⟩
          simp only [zp]
          replace E := below_next E B
          refine sv (.bool true) 59 rfl rfl (ex_not rfl rfl rfl) ?_
          simp only [zp]
          refine sv (.bool true) 60 rfl rfl (ex_pkT rfl rfl rfl) ?_
          simp only [zp]
          refine sg (.bool true) 10 rfl rfl rfl rfl ?_
          simp only [zp]
          refine st_end ?_
          subst hQ
          refine wp_ret ?_
          repeat (first | refine ret_out ?_ | refine ret_blk ?_)
          exact bodyPost_ret (results_tmp Try.results4 _ _ _) rfl ⟨rfl, E⟩
  · skip
    by_cases e0 : fe < 0
    · skip
      have E : Below w.heap.size w w := Below.refl _ _
      go_enter Try.func4, Try.ntmps4
      refine wq fun Q hQ => ?_
      refine sg (.bool false) 10 rfl rfl rfl rfl ?_
      simp only [zp]
      refine st_end ?_
      subst hQ
      refine wp_seq ?_
      refine wq fun Q hQ => ?_
      refine sm (.float .f64 x) 11 rfl rfl rfl rfl ?_
      simp only [zp]
      refine sm (.float .f64 y) 12 rfl rfl rfl rfl ?_
      simp only [zp]
      refine sv (.bool false) 13 rfl rfl (ex_bin rfl rfl rfl (egF _ _ _ _ _ _) (leqF _ (is_le nx ny (decide_eq_false ex)))) ?_
      simp only [zp]
      refine sv (.bool true) 14 rfl rfl (ex_not rfl rfl rfl) ?_
      simp only [zp]
      refine st_end ?_
      subst hQ
      refine wp_cond_true rfl ?_
      refine wl_in (wl_cap fun Q hQ => ?_)
      refine sm (.float .f64 y) 15 rfl rfl rfl rfl ?_
      simp only [zp]
      refine sm (.float .f64 x) 16 rfl rfl rfl rfl ?_
      simp only [zp]
      refine sg (.float .f64 y) 3 rfl rfl rfl rfl ?_
      simp only [zp]
      refine sg (.float .f64 x) 4 rfl rfl rfl rfl ?_
      simp only [zp]
      refine st_end ?_
      subst hQ
      refine wp_seq ?_
      refine wq fun Q hQ => ?_
      refine st_call (some 17) rfl rfl (lives_any w) (ex_call (f := 6) (vs := []) rfl (cf6 _) rfl) ?_
      rintro e W1 ⟨rfl, B⟩
      refine ⟨_, rfl, ?_⟩
      simp only [zp]
      replace E := below_next E B
      refine sv (.bool false) 18 rfl rfl (ex_not rfl rfl rfl) ?_
      simp only [zp]
      refine sm (.bool false) 19 rfl rfl rfl rfl ?_
      simp only [zp]
      refine sm (.int .i64 fe) 20 rfl rfl rfl rfl ?_
      simp only [zp]
      refine sv (.bool true) 21 rfl rfl (ex_bin (u := (.int .i64 fe)) (r := (.int .i64 0)) rfl rfl rfl (eg3 _ _ _ _ _ _) (lss3 _ (decide_eq_true (by omega)))) ?_
      simp only [zp]
      refine sv (.bool true) 22 rfl rfl (ex_pkF rfl rfl rfl) ?_
      simp only [zp]
      refine sm (.bool true) 23 rfl rfl rfl rfl ?_
      simp only [zp]
      refine sn 24 rfl rfl ?_
      simp only [zp]
      refine sn 25 rfl rfl ?_
      simp only [zp]
      refine sn 26 rfl rfl ?_
      simp only [zp]
      refine sv (.bool true) 27 rfl rfl (ex_pkT rfl rfl rfl) ?_
      simp only [zp]
      refine sm (.bool true) 28 rfl rfl rfl rfl ?_
      simp only [zp]
      refine sn 29 rfl rfl ?_
      simp only [zp]
      refine sn 30 rfl rfl ?_
      simp only [zp]
      refine sv (.bool true) 31 rfl rfl (ex_pkT rfl rfl rfl) ?_
      simp only [zp]
      refine sm (.bool true) 32 rfl rfl rfl rfl ?_
      simp only [zp]
      refine sn 33 rfl rfl ?_
      simp only [zp]
      refine sn 34 rfl rfl ?_
      simp only [zp]
      refine sn 35 rfl rfl ?_
      simp only [zp]
      refine sn 36 rfl rfl ?_
      simp only [zp]
      refine sv (.bool true) 37 rfl rfl (ex_pkT rfl rfl rfl) ?_
      simp only [zp]
      refine st_end ?_
      subst hQ
      refine wp_cond_true rfl ?_
      refine wq fun Q hQ => ?_
      refine st_call (some 38) rfl rfl (lives_any W1) (ex_call (f := 6) (vs := []) rfl (cf6 _) rfl) ?_
      rintro e W2 ⟨rfl, B⟩
      refine ⟨_, rfl, ?_⟩
      simp only [zp]
      replace E := below_next E B
      refine sg (.bool true) 10 rfl rfl rfl rfl ?_
      simp only [zp]
      refine st_end ?_
      subst hQ
      refine wp_ret ?_
      repeat (first | refine ret_out ?_ | refine ret_blk ?_)
      exact bodyPost_ret (results_tmp Try.results4 _ _ _) rfl ⟨rfl, E⟩
    · skip
      by_cases e1 : mo < fe
      · skip
        have E : Below w.heap.size w w := Below.refl _ _
        go_enter Try.func4, Try.ntmps4
        refine wq fun Q hQ => ?_
        refine sg (.bool false) 10 rfl rfl rfl rfl ?_
        simp only [zp]
        refine st_end ?_
        subst hQ
        refine wp_seq ?_
        refine wq fun Q hQ => ?_
        refine sm (.float .f64 x) 11 rfl rfl rfl rfl ?_
        simp only [zp]
        refine sm (.float .f64 y) 12 rfl rfl rfl rfl ?_
        simp only [zp]
        refine sv (.bool false) 13 rfl rfl (ex_bin rfl rfl rfl (egF _ _ _ _ _ _) (leqF _ (is_le nx ny (decide_eq_false ex)))) ?_
        simp only [zp]
        refine sv (.bool true) 14 rfl rfl (ex_not rfl rfl rfl) ?_
        simp only [zp]
        refine st_end ?_
        subst hQ
        refine wp_cond_true rfl ?_
        refine wl_in (wl_cap fun Q hQ => ?_)
        refine sm (.float .f64 y) 15 rfl rfl rfl rfl ?_
        simp only [zp]
        refine sm (.float .f64 x) 16 rfl rfl rfl rfl ?_
        simp only [zp]
        refine sg (.float .f64 y) 3 rfl rfl rfl rfl ?_
        simp only [zp]
        refine sg (.float .f64 x) 4 rfl rfl rfl rfl ?_
        simp only [zp]
        refine st_end ?_
        subst hQ
        refine wp_seq ?_
        refine wq fun Q hQ => ?_
        refine st_call (some 17) rfl rfl (lives_any w) (ex_call (f := 6) (vs := []) rfl (cf6 _) rfl) ?_
        rintro e W1 ⟨rfl, B⟩
        refine ⟨_, rfl, ?_⟩
        simp only [zp]
        replace E := below_next E B
        refine sv (.bool false) 18 rfl rfl (ex_not rfl rfl rfl) ?_
        simp only [zp]
        refine sm (.bool false) 19 rfl rfl rfl rfl ?_
        simp only [zp]
        refine sm (.int .i64 fe) 20 rfl rfl rfl rfl ?_
        simp only [zp]
        refine sv (.bool false) 21 rfl rfl (ex_bin (u := (.int .i64 fe)) (r := (.int .i64 0)) rfl rfl rfl (eg3 _ _ _ _ _ _) (lss3 _ (decide_eq_false (by omega)))) ?_
        simp only [zp]
        refine sv (.bool false) 22 rfl rfl (ex_pkF rfl rfl rfl) ?_
        simp only [zp]
        refine sm (.bool false) 23 rfl rfl rfl rfl ?_
        simp only [zp]
        refine sm (.int .i64 mo) 24 rfl rfl rfl rfl ?_
        simp only [zp]
        refine sm (.int .i64 fe) 25 rfl rfl rfl rfl ?_
        simp only [zp]
        refine sv (.bool true) 26 rfl rfl (ex_bin (u := (.int .i64 mo)) (r := (.int .i64 fe)) rfl rfl rfl (eg3 _ _ _ _ _ _) (lss3 _ (decide_eq_true (by omega)))) ?_
        simp only [zp]
        refine sv (.bool true) 27 rfl rfl (ex_pkF rfl rfl rfl) ?_
        simp only [zp]
        refine sm (.bool true) 28 rfl rfl rfl rfl ?_
        simp only [zp]
        refine sn 29 rfl rfl ?_
        simp only [zp]
        refine sn 30 rfl rfl ?_
        simp only [zp]
        refine sv (.bool true) 31 rfl rfl (ex_pkT rfl rfl rfl) ?_
        simp only [zp]
        refine sm (.bool true) 32 rfl rfl rfl rfl ?_
        simp only [zp]
        refine sn 33 rfl rfl ?_
        simp only [zp]
        refine sn 34 rfl rfl ?_
        simp only [zp]
        refine sn 35 rfl rfl ?_
        simp only [zp]
        refine sn 36 rfl rfl ?_
        simp only [zp]
        refine sv (.bool true) 37 rfl rfl (ex_pkT rfl rfl rfl) ?_
        simp only [zp]
        refine st_end ?_
        subst hQ
        refine wp_cond_true rfl ?_
        refine wq fun Q hQ => ?_
        refine st_call (some 38) rfl rfl (lives_any W1) (ex_call (f := 6) (vs := []) rfl (cf6 _) rfl) ?_
        rintro e W2 ⟨rfl, B⟩
        refine ⟨_, rfl, ?_⟩
        simp only [zp]
        replace E := below_next E B
        refine sg (.bool true) 10 rfl rfl rfl rfl ?_
        simp only [zp]
        refine st_end ?_
        subst hQ
        refine wp_ret ?_
        repeat (first | refine ret_out ?_ | refine ret_blk ?_)
        exact bodyPost_ret (results_tmp Try.results4 _ _ _) rfl ⟨rfl, E⟩
      · skip
        by_cases e2 : d < 0
        · skip
          have E : Below w.heap.size w w := Below.refl _ _
          go_enter Try.func4, Try.ntmps4
          refine wq fun Q hQ => ?_
          refine sg (.bool false) 10 rfl rfl rfl rfl ?_
          simp only [zp]
          refine st_end ?_
          subst hQ
          refine wp_seq ?_
          refine wq fun Q hQ => ?_
          refine sm (.float .f64 x) 11 rfl rfl rfl rfl ?_
          simp only [zp]
          refine sm (.float .f64 y) 12 rfl rfl rfl rfl ?_
          simp only [zp]
          refine sv (.bool false) 13 rfl rfl (ex_bin rfl rfl rfl (egF _ _ _ _ _ _) (leqF _ (is_le nx ny (decide_eq_false ex)))) ?_
          simp only [zp]
          refine sv (.bool true) 14 rfl rfl (ex_not rfl rfl rfl) ?_
          simp only [zp]
          refine st_end ?_
          subst hQ
          refine wp_cond_true rfl ?_
          refine wl_in (wl_cap fun Q hQ => ?_)
          refine sm (.float .f64 y) 15 rfl rfl rfl rfl ?_
          simp only [zp]
          refine sm (.float .f64 x) 16 rfl rfl rfl rfl ?_
          simp only [zp]
          refine sg (.float .f64 y) 3 rfl rfl rfl rfl ?_
          simp only [zp]
          refine sg (.float .f64 x) 4 rfl rfl rfl rfl ?_
          simp only [zp]
          refine st_end ?_
          subst hQ
          refine wp_seq ?_
          refine wq fun Q hQ => ?_
          refine st_call (some 17) rfl rfl (lives_any w) (ex_call (f := 6) (vs := []) rfl (cf6 _) rfl) ?_
          rintro e W1 ⟨rfl, B⟩
          refine ⟨_, rfl, ?_⟩
          simp only [zp]
          replace E := below_next E B
          refine sv (.bool false) 18 rfl rfl (ex_not rfl rfl rfl) ?_
          simp only [zp]
          refine sm (.bool false) 19 rfl rfl rfl rfl ?_
          simp only [zp]
          refine sm (.int .i64 fe) 20 rfl rfl rfl rfl ?_
          simp only [zp]
          refine sv (.bool false) 21 rfl rfl (ex_bin (u := (.int .i64 fe)) (r := (.int .i64 0)) rfl rfl rfl (eg3 _ _ _ _ _ _) (lss3 _ (decide_eq_false (by omega)))) ?_
          simp only [zp]
          refine sv (.bool false) 22 rfl rfl (ex_pkF rfl rfl rfl) ?_
          simp only [zp]
          refine sm (.bool false) 23 rfl rfl rfl rfl ?_
          simp only [zp]
          refine sm (.int .i64 mo) 24 rfl rfl rfl rfl ?_
          simp only [zp]
          refine sm (.int .i64 fe) 25 rfl rfl rfl rfl ?_
          simp only [zp]
          refine sv (.bool false) 26 rfl rfl (ex_bin (u := (.int .i64 mo)) (r := (.int .i64 fe)) rfl rfl rfl (eg3 _ _ _ _ _ _) (lss3 _ (decide_eq_false (by omega)))) ?_
          simp only [zp]
          refine sv (.bool false) 27 rfl rfl (ex_pkF rfl rfl rfl) ?_
          simp only [zp]
          refine sm (.bool false) 28 rfl rfl rfl rfl ?_
          simp only [zp]
          refine sm (.int .i64 d) 29 rfl rfl rfl rfl ?_
          simp only [zp]
          refine sv (.bool true) 30 rfl rfl (ex_bin (u := (.int .i64 d)) (r := (.int .i64 0)) rfl rfl rfl (eg3 _ _ _ _ _ _) (lss3 _ (decide_eq_true (by omega)))) ?_
          simp only [zp]
          refine sv (.bool true) 31 rfl rfl (ex_pkF rfl rfl rfl) ?_
          simp only [zp]
          refine sm (.bool true) 32 rfl rfl rfl rfl ?_
          simp only [zp]
          refine sn 33 rfl rfl ?_
          simp only [zp]
          refine sn 34 rfl rfl ?_
          simp only [zp]
          refine sn 35 rfl rfl ?_
          simp only [zp]
          refine sn 36 rfl rfl ?_
          simp only [zp]
          refine sv (.bool true) 37 rfl rfl (ex_pkT rfl rfl rfl) ?_
          simp only [zp]
          refine st_end ?_
          subst hQ
          refine wp_cond_true rfl ?_
          refine wq fun Q hQ => ?_
          refine st_call (some 38) rfl rfl (lives_any W1) (ex_call (f := 6) (vs := []) rfl (cf6 _) rfl) ?_
          rintro e W2 ⟨rfl, B⟩
          refine ⟨_, rfl, ?_⟩
          simp only [zp]
          replace E := below_next E B
          refine sg (.bool true) 10 rfl rfl rfl rfl ?_
          simp only [zp]
          refine st_end ?_
          subst hQ
          refine wp_ret ?_
          repeat (first | refine ret_out ?_ | refine ret_blk ?_)
          exact bodyPost_ret (results_tmp Try.results4 _ _ _) rfl ⟨rfl, E⟩
        · skip
          have CM := cln_mono (x := y) (y := x) hy hx ny nx (by omega)
          have L1 := ls_not (costN_le fe d y hy f2 d2) (costN_le fe d x hx f2 d2) (costN_mono hx hy (Int.le_refl fe) f2 d2 (by omega) (by omega) CM)
          have L2 := ls_not (costN_le mo d y hy m2 d2) (costN_le fe d y hy f2 d2) (costN_mono hy hy (show fe ≤ mo by omega) m2 d2 (by omega) (by omega) (Nat.le_refl _))
          have E : Below w.heap.size w w := Below.refl _ _
          go_enter Try.func4, Try.ntmps4
          refine wq fun Q hQ => ?_
          refine sg (.bool false) 10 rfl rfl rfl rfl ?_
          simp only [zp]
          refine st_end ?_
          subst hQ
          refine wp_seq ?_
          refine wq fun Q hQ => ?_
          refine sm (.float .f64 x) 11 rfl rfl rfl rfl ?_
          simp only [zp]
          refine sm (.float .f64 y) 12 rfl rfl rfl rfl ?_
          simp only [zp]
          refine sv (.bool false) 13 rfl rfl (ex_bin rfl rfl rfl (egF _ _ _ _ _ _) (leqF _ (is_le nx ny (decide_eq_false ex)))) ?_
          simp only [zp]
          refine sv (.bool true) 14 rfl rfl (ex_not rfl rfl rfl) ?_
          simp only [zp]
          refine st_end ?_
          subst hQ
          refine wp_cond_true rfl ?_
          refine wl_in (wl_cap fun Q hQ => ?_)
          refine sm (.float .f64 y) 15 rfl rfl rfl rfl ?_
          simp only [zp]
          refine sm (.float .f64 x) 16 rfl rfl rfl rfl ?_
          simp only [zp]
          refine sg (.float .f64 y) 3 rfl rfl rfl rfl ?_
          simp only [zp]
          refine sg (.float .f64 x) 4 rfl rfl rfl rfl ?_
          simp only [zp]
          refine st_end ?_
          subst hQ
          refine wp_seq ?_
          refine wq fun Q hQ => ?_
          refine st_call (some 17) rfl rfl (lives_any w) (ex_call (f := 6) (vs := []) rfl (cf6 _) rfl) ?_
          rintro e W1 ⟨rfl, B⟩
          refine ⟨_, rfl, ?_⟩
          simp only [zp]
          replace E := below_next E B
          refine sv (.bool false) 18 rfl rfl (ex_not rfl rfl rfl) ?_
          simp only [zp]
          refine sm (.bool false) 19 rfl rfl rfl rfl ?_
          simp only [zp]
          refine sm (.int .i64 fe) 20 rfl rfl rfl rfl ?_
          simp only [zp]
          refine sv (.bool false) 21 rfl rfl (ex_bin (u := (.int .i64 fe)) (r := (.int .i64 0)) rfl rfl rfl (eg3 _ _ _ _ _ _) (lss3 _ (decide_eq_false (by omega)))) ?_
          simp only [zp]
          refine sv (.bool false) 22 rfl rfl (ex_pkF rfl rfl rfl) ?_
          simp only [zp]
          refine sm (.bool false) 23 rfl rfl rfl rfl ?_
          simp only [zp]
          refine sm (.int .i64 mo) 24 rfl rfl rfl rfl ?_
          simp only [zp]
          refine sm (.int .i64 fe) 25 rfl rfl rfl rfl ?_
          simp only [zp]
          refine sv (.bool false) 26 rfl rfl (ex_bin (u := (.int .i64 mo)) (r := (.int .i64 fe)) rfl rfl rfl (eg3 _ _ _ _ _ _) (lss3 _ (decide_eq_false (by omega)))) ?_
          simp only [zp]
          refine sv (.bool false) 27 rfl rfl (ex_pkF rfl rfl rfl) ?_
          simp only [zp]
          refine sm (.bool false) 28 rfl rfl rfl rfl ?_
          simp only [zp]
          refine sm (.int .i64 d) 29 rfl rfl rfl rfl ?_
          simp only [zp]
          refine sv (.bool false) 30 rfl rfl (ex_bin (u := (.int .i64 d)) (r := (.int .i64 0)) rfl rfl rfl (eg3 _ _ _ _ _ _) (lss3 _ (decide_eq_false (by omega)))) ?_
          simp only [zp]
          refine sv (.bool false) 31 rfl rfl (ex_pkF rfl rfl rfl) ?_
          simp only [zp]
          refine sm (.bool false) 32 rfl rfl rfl rfl ?_
          simp only [zp]
          refine sm (.float .f64 y) 33 rfl rfl rfl rfl ?_
          simp only [zp]
          refine sm (.float .f64 x) 34 rfl rfl rfl rfl ?_
          simp only [zp]
          refine sv (.bool true) 35 rfl rfl (ex_bin rfl rfl rfl (egF _ _ _ _ _ _) (leqF _ (is_le ny nx (decide_eq_true (by omega))))) ?_
          simp only [zp]
          refine sv (.bool false) 36 rfl rfl (ex_not rfl rfl rfl) ?_
          simp only [zp]
          refine sv (.bool false) 37 rfl rfl (ex_pkF rfl rfl rfl) ?_
          simp only [zp]
          refine st_end ?_
          subst hQ
          refine wp_cond_false rfl ?_
          refine wp_skip ?_
          refine wq fun Q hQ => ?_
          refine sm (.int .i64 fe) 39 rfl rfl rfl rfl ?_
          simp only [zp]
          refine sm (.int .i64 d) 40 rfl rfl rfl rfl ?_
          simp only [zp]
          refine sm (.float .f64 y) 41 rfl rfl rfl rfl ?_
          simp only [zp]
          refine st_call (some 42) rfl rfl (scost_any fe d y W1 hy f2 d2) (ex_call (f := 8) (vs := [(.int .i64 fe), (.int .i64 d), (.float .f64 y)]) rfl (cf8 _) rfl) ?_
          rintro e W2 ⟨rfl, B⟩
          refine ⟨_, rfl, ?_⟩
          simp only [zp]
          replace E := below_next E B
          refine sm (.int .i64 fe) 43 rfl rfl rfl rfl ?_
          simp only [zp]
          refine sm (.int .i64 d) 44 rfl rfl rfl rfl ?_
          simp only [zp]
          refine sm (.float .f64 x) 45 rfl rfl rfl rfl ?_
          simp only [zp]
          refine st_call (some 46) rfl rfl (scost_any fe d x W2 hx f2 d2) (ex_call (f := 8) (vs := [(.int .i64 fe), (.int .i64 d), (.float .f64 x)]) rfl (cf8 _) rfl) ?_
          rintro e W3 ⟨rfl, B⟩
          refine ⟨_, rfl, ?_⟩
          simp only [zp]
          replace E := below_next E B
          refine st_call (some 47) rfl rfl (sless_any _ _ W3 L1) (ex_call (f := 7) (vs := [(.float .f64 (costN fe d y)), (.float .f64 (costN fe d x))]) rfl (cf7 _) rfl) ?_
          rintro e W4 ⟨rfl, B⟩
          refine ⟨_, rfl, ?_⟩
          simp only [zp]
          replace E := below_next E B
          refine sv (.bool true) 48 rfl rfl (ex_not rfl rfl rfl) ?_
          simp only [zp]
          refine sm (.bool true) 49 rfl rfl rfl rfl ?_
          simp only [zp]
          refine sm (.int .i64 mo) 50 rfl rfl rfl rfl ?_
          simp only [zp]
          refine sm (.int .i64 d) 51 rfl rfl rfl rfl ?_
          simp only [zp]
          refine sm (.float .f64 y) 52 rfl rfl rfl rfl ?_
          simp only [zp]
          refine st_call (some 53) rfl rfl (scost_any mo d y W4 hy m2 d2) (ex_call (f := 8) (vs := [(.int .i64 mo), (.int .i64 d), (.float .f64 y)]) rfl (cf8 _) rfl) ?_
          rintro e W5 ⟨rfl, B⟩
          refine ⟨_, rfl, ?_⟩
          simp only [zp]
          replace E := below_next E B
          refine sm (.int .i64 fe) 54 rfl rfl rfl rfl ?_
          simp only [zp]
          refine sm (.int .i64 d) 55 rfl rfl rfl rfl ?_
          simp only [zp]
          refine sm (.float .f64 y) 56 rfl rfl rfl rfl ?_
          simp only [zp]
          refine st_call (some 57) rfl rfl (scost_any fe d y W5 hy f2 d2) (ex_call (f := 8) (vs := [(.int .i64 fe), (.int .i64 d), (.float .f64 y)]) rfl (cf8 _) rfl) ?_
          rintro e W6 ⟨rfl, B⟩
          refine ⟨_, rfl, ?_⟩
          simp only [zp]
          replace E := below_next E B
          refine st_call (some 58) rfl rfl (sless_any _ _ W6 L2) (ex_call (f := 7) (vs := [(.float .f64 (costN mo d y)), (.float .f64 (costN fe d y))]) rfl (cf7 _) rfl) ?_
          rintro e W7 ⟨rfl, B⟩
          refine ⟨_, rfl, ?_⟩
          simp only [zp]
          replace E := below_next E B
          refine sv (.bool true) 59 rfl rfl (ex_not rfl rfl rfl) ?_
          simp only [zp]
          refine sv (.bool true) 60 rfl rfl (ex_pkT rfl rfl rfl) ?_
          simp only [zp]
          refine sg (.bool true) 10 rfl rfl rfl rfl ?_
          simp only [zp]
          refine st_end ?_
          subst hQ
          refine wp_ret ?_
          repeat (first | refine ret_out ?_ | refine ret_blk ?_)
          exact bodyPost_ret (results_tmp Try.results4 _ _ _) rfl ⟨rfl, E⟩
end Go.Proofs.Ytjmdcgfhblgehab
