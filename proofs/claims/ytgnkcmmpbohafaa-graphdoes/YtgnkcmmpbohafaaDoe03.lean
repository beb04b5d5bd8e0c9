/- Score over this seat: the functions of the package. -/
import Derived.Test.YtgnkcmmpbohafaaDoe02
namespace Go.Proofs.Ytgnkcmmpbohafaa
open Go.RowKit
set_option linter.unusedVariables false
set_option linter.unusedSimpArgs false
set_option maxRecDepth 100000

theorem kF1 : 0 < key F1 := by
  rw [key_pos (Nat.le_of_lt F1_lt)]
  have := iv_pos (y := F1) (by decide)
  omega
theorem mx2 (ts : Array TypeId) (t : TypeId) (m n : Int) (W : World) : (Builtin.max_ ts t #[.int .i64 m, .int .i64 n]).run Try.prog W = .ok (.int .i64 (max m n)) W := by
  simp [Builtin.max_, Builtin.max2]
  split <;> omega
theorem mn2 (ts : Array TypeId) (t : TypeId) (m n : Int) (W : World) : (Builtin.min_ ts t #[.int .i64 m, .int .i64 n]).run Try.prog W = .ok (.int .i64 (min m n)) W := by
  simp [Builtin.min_, Builtin.min2]
  split <;> omega
section
variable {o : Oper} {a : Act} {W : World}
theorem ex_max {x y : Operand} {ts : Array TypeId} {m n z : Int} (ho : o.op = .call { callee := .builtin .max, args := #[x, y], argTypes := ts }) (hx : a.eval x = .int .i64 m) (hy : a.eval y = .int .i64 n) (hz : max m n = z) : (execOp a.eval o).run Try.prog W = .ok (.value (.int .i64 z)) W := by
  subst hz; have hr := mx2 ts o.type m n W
  unfold execOp
  simp [ho, resolve, invoke, builtin, hx, hy, hr, Result.andThen]
theorem ex_min {x y : Operand} {ts : Array TypeId} {m n z : Int} (ho : o.op = .call { callee := .builtin .min, args := #[x, y], argTypes := ts }) (hx : a.eval x = .int .i64 m) (hy : a.eval y = .int .i64 n) (hz : min m n = z) : (execOp a.eval o).run Try.prog W = .ok (.value (.int .i64 z)) W := by
  subst hz; have hr := mn2 ts o.type m n W
  unfold execOp
  simp [ho, resolve, invoke, builtin, hx, hy, hr, Result.andThen]
end

theorem jk_bad {z : Nat → Nat} {n i s m J : Nat} (hm : n - i = m + 1) (hj : jk z (n - i) i s = J ∨ (s = 9218868437227405312 ∧ J = 9218868437227405312)) (hk : okJ (z i) = false) : J = 9218868437227405312 := by
  rcases hj with hj | hj
  · rw [hm] at hj
    have h : (if okJ (z i) then jk z m (i + 1) (fadd s (z i)) else 9218868437227405312) = J := hj
    rw [hk] at h; exact h.symm
  · exact hj.2
theorem jk_on {z : Nat → Nat} {n i s m J : Nat} (hm : n - i = m + 1) (hs : s ≤ 9218868437227405312) (hx : z i < 18446744073709551616) (e0 : isN (z i) = false) (e1 : 0 ≤ key (z i)) (hj : jk z (n - i) i s = J ∨ (s = 9218868437227405312 ∧ J = 9218868437227405312)) : ∃ t, Ieee.double.add s (z i) = some t ∧ t ≤ 9218868437227405312 ∧ (jk z (n - (i + 1)) (i + 1) t = J ∨ (t = 9218868437227405312 ∧ J = 9218868437227405312)) := by
  by_cases e2 : z i = 9218868437227405312
  · have hk : okJ (z i) = false := by unfold okJ; rw [e2]; rfl
    exact ⟨_, add_end hs (by omega) (.inr e2), Nat.le_refl _, .inr ⟨rfl, jk_bad hm hj hk⟩⟩
  · have hb : (z i == 9218868437227405312) = false := by simpa using e2
    have hk : okJ (z i) = true := by unfold okJ; rw [e0, hb, decide_eq_true e1]; rfl
    have JS := jn_step hs hx hk; refine ⟨_, JS.1, JS.2.1, ?_⟩
    rcases hj with hj | hj
    · rw [hm] at hj
      have h : (if okJ (z i) then jk z m (i + 1) (fadd s (z i)) else 9218868437227405312) = J := hj
      rw [hk] at h
      left
      rw [show n - (i + 1) = m by omega]; exact h
    · right
      have := JS.2.1
      have := JS.2.2.1
      exact ⟨by omega, hj.2⟩

set_option maxHeartbeats 2000000 in
theorem sclean_any (x : Nat) (w : World) (hx : x < 18446744073709551616) : Calls Try.prog 53 #[.float .f64 x] w fun e w' => e = .returned (.float .f64 (cln x)) ∧ Below w.heap.size w w' := by
  have k1 := kF1
  have E : Below w.heap.size w w := Below.refl _ _
  go_enter Try.func53, Try.ntmps53; refine wq fun Q hQ => ?_; refine vg (.float .f64 0) 2 rfl rfl rfl rfl ?_; refine st_end ?_; subst hQ; refine wp_seq ?_; refine wp_block ?_; refine wq fun Q hQ => ?_; refine vm (.float .f64 x) 4 rfl rfl rfl rfl ?_
  by_cases e0 : isN x = true
  · skip
    refine vv (.bool false) 5 rfl rfl (ex_bin rfl rfl rfl (egF _ _ _ _ _ _) (gtrF _ (no_gt (.inl e0)))) ?_; refine vg (.bool false) 3 rfl rfl rfl rfl ?_; refine st_end ?_; subst hQ; refine wp_cond_false rfl ?_; refine wq fun Q hQ => ?_; refine vm (.float .f64 x) 7 rfl rfl rfl rfl ?_; refine vv (.bool false) 8 rfl rfl (ex_bin rfl rfl rfl (egF _ _ _ _ _ _) (gtrF _ (no_gt (.inl e0)))) ?_; refine vg (.bool false) 6 rfl rfl rfl rfl ?_; refine st_end ?_; subst hQ; refine wp_cond_false rfl ?_; refine wp_skip ?_; refine wq fun Q hQ => ?_; refine vg (.float .f64 0) 2 rfl rfl rfl rfl ?_
    refine st_end ?_; subst hQ; refine wp_ret ?_
    repeat (first | refine ret_out ?_ | refine ret_blk ?_)
    refine bodyPost_ret (results_tmp Try.results53 _ _ _) rfl ⟨?_, E⟩
    show Ending.returned (.float .f64 0) = _
    simp [cln, e0] <;> rfl
  · skip
    replace e0 := Bool.eq_false_iff.2 e0
    by_cases e1 : key x ≤ 0
    · skip
      refine vv (.bool false) 5 rfl rfl (ex_bin rfl rfl rfl (egF _ _ _ _ _ _) (gtrF _ (is_gt e0 N1 (decide_eq_false (by omega))))) ?_; refine vg (.bool false) 3 rfl rfl rfl rfl ?_; refine st_end ?_; subst hQ; refine wp_cond_false rfl ?_; refine wq fun Q hQ => ?_; refine vm (.float .f64 x) 7 rfl rfl rfl rfl ?_; refine vv (.bool false) 8 rfl rfl (ex_bin rfl rfl rfl (egF _ _ _ _ _ _) (gtrF _ (is_gt e0 N0 (decide_eq_false (by rw [key_zero]; omega))))) ?_; refine vg (.bool false) 6 rfl rfl rfl rfl ?_; refine st_end ?_; subst hQ; refine wp_cond_false rfl ?_; refine wp_skip ?_
      refine wq fun Q hQ => ?_; refine vg (.float .f64 0) 2 rfl rfl rfl rfl ?_; refine st_end ?_; subst hQ; refine wp_ret ?_
      repeat (first | refine ret_out ?_ | refine ret_blk ?_)
      refine bodyPost_ret (results_tmp Try.results53 _ _ _) rfl ⟨?_, E⟩
      show Ending.returned (.float .f64 0) = _
      simp [cln, e0, e1] <;> rfl
    · skip
      by_cases e2 : key F1 < key x
      · skip
        refine vv (.bool true) 5 rfl rfl (ex_bin rfl rfl rfl (egF _ _ _ _ _ _) (gtrF _ (is_gt e0 N1 (decide_eq_true e2)))) ?_; refine vg (.bool true) 3 rfl rfl rfl rfl ?_; refine st_end ?_; subst hQ; refine wp_cond_true rfl ?_; refine wq fun Q hQ => ?_; refine vg (.float .f64 4607182418800017408) 2 rfl rfl rfl rfl ?_; refine st_end ?_; subst hQ; refine wp_ret ?_
        repeat (first | refine ret_out ?_ | refine ret_blk ?_)
        refine bodyPost_ret (results_tmp Try.results53 _ _ _) rfl ⟨?_, E⟩
        show Ending.returned (.float .f64 4607182418800017408) = _
        simp [cln, e0, e1, e2] <;> rfl
      · skip
        refine vv (.bool false) 5 rfl rfl (ex_bin rfl rfl rfl (egF _ _ _ _ _ _) (gtrF _ (is_gt e0 N1 (decide_eq_false e2)))) ?_; refine vg (.bool false) 3 rfl rfl rfl rfl ?_; refine st_end ?_; subst hQ; refine wp_cond_false rfl ?_; refine wq fun Q hQ => ?_; refine vm (.float .f64 x) 7 rfl rfl rfl rfl ?_; refine vv (.bool true) 8 rfl rfl (ex_bin rfl rfl rfl (egF _ _ _ _ _ _) (gtrF _ (is_gt e0 N0 (decide_eq_true (by rw [key_zero]; omega))))) ?_; refine vg (.bool true) 6 rfl rfl rfl rfl ?_; refine st_end ?_; subst hQ; refine wp_cond_true rfl ?_; refine wq fun Q hQ => ?_
        refine vm (.float .f64 x) 9 rfl rfl rfl rfl ?_; refine vg (.float .f64 x) 2 rfl rfl rfl rfl ?_; refine st_end ?_; subst hQ; refine wp_ret ?_
        repeat (first | refine ret_out ?_ | refine ret_blk ?_)
        refine bodyPost_ret (results_tmp Try.results53 _ _ _) rfl ⟨?_, E⟩
        show Ending.returned (.float .f64 x) = _
        simp [cln, e0, e1, e2] <;> rfl
set_option maxHeartbeats 4000000 in
theorem sweight_any (a : Int) (w : World) (ha : a ≤ 9223372036854775807) : Calls Try.prog 57 #[.int .i64 a] w fun e w' => e = .returned (.float .f64 (wt a)) ∧ Below w.heap.size w w' := by
  have E : Below w.heap.size w w := Below.refl _ _
  go_enter Try.func57, Try.ntmps57; refine wq fun Q hQ => ?_; refine vg (.float .f64 0) 2 rfl rfl rfl rfl ?_; refine st_end ?_; subst hQ; refine wp_seq ?_; refine wq fun Q hQ => ?_; refine vm (.int .i64 a) 6 rfl rfl rfl rfl ?_
  by_cases e0 : a < 0
  · skip
    refine vv (.bool true) 7 rfl rfl (ex_bin (u := (.int .i64 a)) (r := (.int .i64 0)) rfl rfl rfl (eg3 _ _ _ _ _ _) (lss3 _ (decide_eq_true (by omega)))) ?_; refine st_end ?_; subst hQ; refine wp_cond_true rfl ?_; refine wq fun Q hQ => ?_; refine vg (.float .f64 4607182418800017408) 2 rfl rfl rfl rfl ?_; refine st_end ?_; subst hQ; refine wp_ret ?_
    repeat (first | refine ret_out ?_ | refine ret_blk ?_)
    refine bodyPost_ret (results_tmp Try.results57 _ _ _) rfl ⟨?_, E⟩
    show Ending.returned (.float .f64 4607182418800017408) = _
    simp [wt, F1, e0]
  · skip
    refine vv (.bool false) 7 rfl rfl (ex_bin (u := (.int .i64 a)) (r := (.int .i64 0)) rfl rfl rfl (eg3 _ _ _ _ _ _) (lss3 _ (decide_eq_false (by omega)))) ?_; refine st_end ?_; subst hQ; refine wp_cond_false rfl ?_; refine wp_skip ?_; refine wq fun Q hQ => ?_; refine vm (.int .i64 a) 8 rfl rfl rfl rfl ?_; refine vv (.int .i64 (a / 64)) 9 rfl rfl (ex_bin rfl rfl rfl (eg3 _ _ _ _ _ _) (quo3 _ (by omega) ha rfl)) ?_; refine vm (.int .i64 a) 10 rfl rfl rfl rfl ?_; refine vv (.int .i64 (a % 64)) 11 rfl rfl (ex_bin rfl rfl rfl (eg3 _ _ _ _ _ _) (rem3 _ (by omega) ha rfl)) ?_
    refine vg (.int .i64 (a / 64)) 3 rfl rfl rfl rfl ?_; refine vg (.int .i64 (a % 64)) 4 rfl rfl rfl rfl ?_; refine st_end ?_; subst hQ; refine wp_seq ?_; refine wq fun Q hQ => ?_; refine vm (.int .i64 (a / 64)) 12 rfl rfl rfl rfl ?_
    by_cases e1 : 64 < a / 64
    · skip
      refine vv (.bool true) 13 rfl rfl (ex_bin (u := (.int .i64 (a / 64))) (r := (.int .i64 64)) rfl rfl rfl (eg3 _ _ _ _ _ _) (gtr3 _ (decide_eq_true (by omega)))) ?_; refine st_end ?_; subst hQ; refine wp_cond_true rfl ?_; refine wq fun Q hQ => ?_; refine vg (.float .f64 0) 2 rfl rfl rfl rfl ?_; refine st_end ?_; subst hQ; refine wp_ret ?_
      repeat (first | refine ret_out ?_ | refine ret_blk ?_)
      refine bodyPost_ret (results_tmp Try.results57 _ _ _) rfl ⟨?_, E⟩
      show Ending.returned (.float .f64 0) = _
      simp [wt, F1, e0, e1]
    · skip
      refine vv (.bool false) 13 rfl rfl (ex_bin (u := (.int .i64 (a / 64))) (r := (.int .i64 64)) rfl rfl rfl (eg3 _ _ _ _ _ _) (gtr3 _ (decide_eq_false (by omega)))) ?_; refine st_end ?_; subst hQ; refine wp_cond_false rfl ?_; refine wp_skip ?_; refine wq fun Q hQ => ?_; refine vg (.float .f64 4607182418800017408) 5 rfl rfl rfl rfl ?_; refine st_end ?_; subst hQ; refine wp_seq ?_; refine wq fun Q hQ => ?_; refine vm (.int .i64 (a / 64)) 14 rfl rfl rfl rfl ?_; refine vm (.int .i64 0) 15 rfl rfl rfl rfl ?_; refine st_end ?_; subst hQ; refine wp_block ?_
      have hq : ∃ q : Nat, a / 64 = (q : Int) ∧ q ≤ 64 := ⟨(a / 64).toNat, by omega, by omega⟩
      obtain ⟨q, hq, hq2⟩ := hq
      have hr : ∃ r : Nat, a % 64 = (r : Int) ∧ r < 64 := ⟨(a % 64).toNat, by omega, by omega⟩
      obtain ⟨r, hr, hr2⟩ := hr
      have ew : wt a = wtW q r := by unfold wt; rw [if_neg (by omega), if_neg (by omega), hq, hr]; rfl
      rw [hq, hr, ew]
      go_loopw [5, 15] (fun v5 v15 wr => ∃ i : Nat, i ≤ q ∧ v15 = .int .i64 i ∧ v5 = .float .f64 (hf i) ∧ Below w.heap.size w wr) (fun _ v15 _ => q - (intOf v15).toNat)
      case atStart => exact ⟨0, Nat.zero_le _, rfl, rfl, E⟩
      case round =>
        obtain ⟨i, hi, rfl, rfl, E⟩ := hrel
        by_cases hlt : i < q
        · skip
          refine wq fun Q hQ => ?_; refine vv (.bool true) 16 rfl rfl (ex_bin (u := (.int .i64 (i : Nat))) (r := (.int .i64 (q : Nat))) rfl rfl rfl (eg3 _ _ _ _ _ _) (lss3 _ (decide_eq_true (by omega)))) ?_; refine st_end ?_; subst hQ; refine wp_seq ?_; refine wp_cond_true rfl ?_; refine wp_skip ?_; refine wp_seq ?_; refine wp_block ?_; refine wl_in (wl_cap fun Q hQ => ?_); refine vm (.float .f64 (hf i)) 17 rfl rfl rfl rfl ?_; refine vv (.float .f64 (hf (i + 1))) 18 rfl rfl (ex_bin rfl rfl rfl (egF _ _ _ _ _ _) (fdiv_run _ (half_step i (by omega)))) ?_
          refine vg (.float .f64 (hf (i + 1))) 5 rfl rfl rfl rfl ?_; refine st_end ?_; subst hQ; refine wl_in (wl_cap fun Q hQ => ?_); refine vv (.int .i64 ((i + 1 : Nat) : Int)) 19 rfl rfl (ex_bin rfl rfl rfl (eg3 _ _ _ _ _ _) (add3 _ (by omega) (by omega))) ?_; refine vm (.int .i64 ((i + 1 : Nat) : Int)) 15 rfl rfl rfl rfl ?_; refine st_end ?_; subst hQ; refine then_go ?_
          first | (go_big_round; refine ⟨?rel, ?measure⟩) | (refine ⟨?_, ?measure⟩; (repeat apply Exists.intro); refine ⟨?rel, rfl⟩)
          case rel => exact ⟨i + 1, by omega, rfl, rfl, E⟩
          case measure => simp [intOf]; omega
        · have hin : i = q := by omega
          subst i; obtain ⟨za, zb, z1, z2, z3⟩ := wt_parts q r hq2 hr2; refine wq fun Q hQ => ?_; refine vv (.bool false) 16 rfl rfl (ex_bin (u := (.int .i64 (q : Nat))) (r := (.int .i64 (q : Nat))) rfl rfl rfl (eg3 _ _ _ _ _ _) (lss3 _ (decide_eq_false (by omega)))) ?_; refine st_end ?_; subst hQ; refine wp_seq ?_; refine wp_cond_false rfl ?_; refine wp_exit ?_; refine ex_then ?_; refine ex_then ?_; refine ex_blk ?_; refine wq fun Q hQ => ?_; refine vm (.float .f64 (hf q)) 20 rfl rfl rfl rfl ?_; refine vm (.int .i64 (r : Nat)) 21 rfl rfl rfl rfl ?_
          refine vv (.float .f64 (FloatKind.f64.nearest (r : Nat))) 22 rfl rfl (ex_cvt rfl rfl) ?_; refine vv (.float .f64 za) 23 rfl rfl (ex_bin rfl rfl rfl (egF _ _ _ _ _ _) (fdiv_run _ (z1))) ?_; refine vv (.float .f64 zb) 24 rfl rfl (ex_bin rfl rfl rfl (egF _ _ _ _ _ _) (fsub_run _ (z2))) ?_; refine vv (.float .f64 (wtW q r)) 25 rfl rfl (ex_bin rfl rfl rfl (egF _ _ _ _ _ _) (fmul_run _ (z3))) ?_; refine vg (.float .f64 (wtW q r)) 2 rfl rfl rfl rfl ?_; refine st_end ?_; subst hQ; refine wp_ret ?_
          repeat (first | refine ret_out ?_ | refine ret_blk ?_)
          exact bodyPost_ret (results_tmp Try.results57 _ _ _) rfl ⟨rfl, E⟩
set_option maxHeartbeats 2000000 in
theorem sfits_any (a c : Int) (w : World) {b : Bool} (hb : decide (0 ≤ a ∧ a ≤ c) = b) : Calls Try.prog 55 #[.int .i64 a, .int .i64 c] w fun e w' => e = .returned (.bool b) ∧ Below w.heap.size w w' := by
  subst hb
  have E : Below w.heap.size w w := Below.refl _ _
  go_enter Try.func55, Try.ntmps55; refine wq fun Q hQ => ?_; refine vg (.bool false) 4 rfl rfl rfl rfl ?_; refine st_end ?_; subst hQ; refine wq fun Q hQ => ?_; refine vm (.int .i64 a) 5 rfl rfl rfl rfl ?_
  by_cases e0 : 0 ≤ a
  · skip
    refine vv (.bool true) 6 rfl rfl (ex_bin (u := (.int .i64 0)) (r := (.int .i64 a)) rfl rfl rfl (eg3 _ _ _ _ _ _) (leq3 _ (decide_eq_true (by omega)))) ?_; refine vm (.bool true) 7 rfl rfl rfl rfl ?_; refine vm (.int .i64 a) 8 rfl rfl rfl rfl ?_; refine vm (.int .i64 c) 9 rfl rfl rfl rfl ?_
    by_cases e1 : a ≤ c
    · skip
      refine vv (.bool true) 10 rfl rfl (ex_bin (u := (.int .i64 a)) (r := (.int .i64 c)) rfl rfl rfl (eg3 _ _ _ _ _ _) (leq3 _ (decide_eq_true (by omega)))) ?_; refine vv (.bool true) 11 rfl rfl (ex_pkT rfl rfl rfl) ?_; refine vg (.bool true) 4 rfl rfl rfl rfl ?_; refine st_end ?_; subst hQ; refine wp_ret ?_
      repeat (first | refine ret_out ?_ | refine ret_blk ?_)
      refine bodyPost_ret (results_tmp Try.results55 _ _ _) rfl ⟨?_, E⟩
      show Ending.returned (.bool true) = _
      simp [e0, e1]
    · skip
      refine vv (.bool false) 10 rfl rfl (ex_bin (u := (.int .i64 a)) (r := (.int .i64 c)) rfl rfl rfl (eg3 _ _ _ _ _ _) (leq3 _ (decide_eq_false (by omega)))) ?_; refine vv (.bool false) 11 rfl rfl (ex_pkT rfl rfl rfl) ?_; refine vg (.bool false) 4 rfl rfl rfl rfl ?_; refine st_end ?_; subst hQ; refine wp_ret ?_
      repeat (first | refine ret_out ?_ | refine ret_blk ?_)
      refine bodyPost_ret (results_tmp Try.results55 _ _ _) rfl ⟨?_, E⟩
      show Ending.returned (.bool false) = _
      simp [e0, e1]
  · skip
    refine vv (.bool false) 6 rfl rfl (ex_bin (u := (.int .i64 0)) (r := (.int .i64 a)) rfl rfl rfl (eg3 _ _ _ _ _ _) (leq3 _ (decide_eq_false (by omega)))) ?_; refine vm (.bool false) 7 rfl rfl rfl rfl ?_; refine vn 8 rfl rfl ?_; refine vn 9 rfl rfl ?_; refine vn 10 rfl rfl ?_; refine vv (.bool false) 11 rfl rfl (ex_pkF rfl rfl rfl) ?_; refine vg (.bool false) 4 rfl rfl rfl rfl ?_; refine st_end ?_; subst hQ; refine wp_ret ?_
    repeat (first | refine ret_out ?_ | refine ret_blk ?_)
    refine bodyPost_ret (results_tmp Try.results55 _ _ _) rfl ⟨?_, E⟩
    show Ending.returned (.bool false) = _
    simp [e0]
set_option maxHeartbeats 2000000 in
theorem sguess_any (a c : Int) (w : World) (hc : c ≤ 9223372036854775807) : Calls Try.prog 56 #[.int .i64 a, .int .i64 c] w fun e w' => e = .returned (.float .f64 (gs a c)) ∧ Below w.heap.size w w' := by
  have E : Below w.heap.size w w := Below.refl _ _
  go_enter Try.func56, Try.ntmps56; refine wq fun Q hQ => ?_; refine vg (.float .f64 0) 4 rfl rfl rfl rfl ?_; refine st_end ?_; subst hQ; refine wp_seq ?_; refine wq fun Q hQ => ?_; refine vm (.int .i64 a) 6 rfl rfl rfl rfl ?_; refine vm (.int .i64 c) 7 rfl rfl rfl rfl ?_
  by_cases e0 : 0 ≤ a ∧ a ≤ c
  · skip
    have G := gs_facts (a := a) (c := c) e0.1 e0.2 hc; refine st_call (some 8) rfl rfl (sfits_any a c w (decide_eq_true e0)) (ex_call (f := 55) (vs := [(.int .i64 a), (.int .i64 c)]) rfl (cf55 _) rfl) ?_; rintro e W1 ⟨rfl, B⟩; refine ⟨_, rfl, ?_⟩; simp only [zp]; replace E := below_next E B; refine vv (.bool false) 9 rfl rfl (ex_not rfl rfl rfl) ?_; refine st_end ?_; subst hQ; refine wp_cond_false rfl ?_; refine wp_skip ?_; refine wq fun Q hQ => ?_; refine vm (.int .i64 c) 10 rfl rfl rfl rfl ?_; refine vv (.float .f64 (i2f c)) 11 rfl rfl (ex_cvt rfl rfl) ?_
    refine vv (.float .f64 (fadd (i2f c) F1)) 12 rfl rfl (ex_bin rfl rfl rfl (egF _ _ _ _ _ _) (fadd_run _ (G.1))) ?_; refine vg (.float .f64 (fadd (i2f c) F1)) 5 rfl rfl rfl rfl ?_; refine st_end ?_; subst hQ; refine wq fun Q hQ => ?_; refine vm (.float .f64 (fadd (i2f c) F1)) 13 rfl rfl rfl rfl ?_; refine vm (.int .i64 a) 14 rfl rfl rfl rfl ?_; refine vv (.float .f64 (i2f a)) 15 rfl rfl (ex_cvt rfl rfl) ?_; refine vv (.float .f64 (fsub (fadd (i2f c) F1) (i2f a))) 16 rfl rfl (ex_bin rfl rfl rfl (egF _ _ _ _ _ _) (fsub_run _ (G.2.1))) ?_
    refine vm (.float .f64 (fadd (i2f c) F1)) 17 rfl rfl rfl rfl ?_; refine vv (.float .f64 (fdiv (fsub (fadd (i2f c) F1) (i2f a)) (fadd (i2f c) F1))) 18 rfl rfl (ex_bin rfl rfl rfl (egF _ _ _ _ _ _) (fdiv_run _ (G.2.2.1))) ?_; refine vg (.float .f64 (fdiv (fsub (fadd (i2f c) F1) (i2f a)) (fadd (i2f c) F1))) 4 rfl rfl rfl rfl ?_; refine st_end ?_; subst hQ; refine wp_ret ?_
    repeat (first | refine ret_out ?_ | refine ret_blk ?_)
    refine bodyPost_ret (results_tmp Try.results56 _ _ _) rfl ⟨?_, E⟩
    unfold gs
    rw [if_neg (by omega)]
    rfl
  · skip
    refine st_call (some 8) rfl rfl (sfits_any a c w (decide_eq_false e0)) (ex_call (f := 55) (vs := [(.int .i64 a), (.int .i64 c)]) rfl (cf55 _) rfl) ?_; rintro e W1 ⟨rfl, B⟩; refine ⟨_, rfl, ?_⟩; simp only [zp]; replace E := below_next E B; refine vv (.bool true) 9 rfl rfl (ex_not rfl rfl rfl) ?_; refine st_end ?_; subst hQ; refine wp_cond_true rfl ?_; refine wq fun Q hQ => ?_; refine vg (.float .f64 0) 4 rfl rfl rfl rfl ?_; refine st_end ?_; subst hQ; refine wp_ret ?_
    repeat (first | refine ret_out ?_ | refine ret_blk ?_)
    refine bodyPost_ret (results_tmp Try.results56 _ _ _) rfl ⟨?_, E⟩
    unfold gs
    rw [if_pos (by omega)]
    rfl
set_option maxHeartbeats 2000000 in
theorem ssince_any (x y : Int) (w : World) (x2 : x ≤ 9223372036854775807) (y1 : 0 < y) : Calls Try.prog 58 #[.int .i64 x, .int .i64 y] w fun e w' => e = .returned (.int .i64 (ageN x y)) ∧ Below w.heap.size w w' := by
  have E : Below w.heap.size w w := Below.refl _ _
  go_enter Try.func58, Try.ntmps58; refine wq fun Q hQ => ?_; refine vg (.int .i64 0) 4 rfl rfl rfl rfl ?_; refine st_end ?_; subst hQ; refine wp_seq ?_; refine wq fun Q hQ => ?_; refine vm (.int .i64 x) 5 rfl rfl rfl rfl ?_; refine vm (.int .i64 y) 6 rfl rfl rfl rfl ?_
  by_cases e0 : x < y
  · skip
    refine vv (.bool true) 7 rfl rfl (ex_bin (u := (.int .i64 x)) (r := (.int .i64 y)) rfl rfl rfl (eg3 _ _ _ _ _ _) (lss3 _ (decide_eq_true (by omega)))) ?_; refine st_end ?_; subst hQ; refine wp_cond_true rfl ?_; refine wq fun Q hQ => ?_; refine vg (.int .i64 0) 4 rfl rfl rfl rfl ?_; refine st_end ?_; subst hQ; refine wp_ret ?_
    repeat (first | refine ret_out ?_ | refine ret_blk ?_)
    refine bodyPost_ret (results_tmp Try.results58 _ _ _) rfl ⟨?_, E⟩
    unfold ageN
    rw [if_pos e0]
    rfl
  · skip
    refine vv (.bool false) 7 rfl rfl (ex_bin (u := (.int .i64 x)) (r := (.int .i64 y)) rfl rfl rfl (eg3 _ _ _ _ _ _) (lss3 _ (decide_eq_false (by omega)))) ?_; refine st_end ?_; subst hQ; refine wp_cond_false rfl ?_; refine wp_skip ?_; refine wq fun Q hQ => ?_; refine vm (.int .i64 x) 8 rfl rfl rfl rfl ?_; refine vm (.int .i64 y) 9 rfl rfl rfl rfl ?_; refine vv (.int .i64 (x - y)) 10 rfl rfl (ex_bin rfl rfl rfl (eg3 _ _ _ _ _ _) (sub3 _ rfl (by omega))) ?_; refine vg (.int .i64 (x - y)) 4 rfl rfl rfl rfl ?_; refine st_end ?_; subst hQ; refine wp_ret ?_
    repeat (first | refine ret_out ?_ | refine ret_blk ?_)
    refine bodyPost_ret (results_tmp Try.results58 _ _ _) rfl ⟨?_, E⟩
    unfold ageN
    rw [if_neg e0, if_neg (by omega)]
    rfl
set_option maxHeartbeats 8000000 in
theorem schance_any {p : PV} {a c t : Int} (w : World) (hc : c ≤ 9223372036854775807) (t1 : -9223372036854775808 ≤ t) (t2 : t ≤ 9223372036854775807) (hg1 : -9223372036854775808 ≤ p.gat) (hg2 : p.gat ≤ 9223372036854775807) (hb1 : -9223372036854775808 ≤ p.bat) (hb2 : p.bat ≤ 9223372036854775807) : Calls Try.prog 17 #[.agg (PL p), .int .i64 a, .int .i64 c, .int .i64 t] w fun e w' => e = .returned (.float .f64 (chN p a c t)) ∧ Below w.heap.size w w' := by
  have E : Below w.heap.size w w := Below.refl _ _
  go_enter Try.func17, Try.ntmps17; refine wq fun Q hQ => ?_; refine st_new (fun b => .pointer (some ⟨b, 0, none⟩)) (some 4) rfl rfl (ex_box rfl rfl) ?_; intro b1 W1 k1 g1 B; simp only [zp]; have ge_b1 := Nat.le_trans E.size g1; replace E := below_next E B; clear B; refine vg (.float .f64 0) 8 rfl rfl rfl rfl ?_; refine st_end ?_; subst hQ; refine wp_seq ?_; refine wq fun Q hQ => ?_; refine vm (.int .i64 a) 10 rfl rfl rfl rfl ?_; refine vm (.int .i64 c) 11 rfl rfl rfl rfl ?_
  by_cases e0 : 0 ≤ a ∧ a ≤ c
  · skip
    have LG := gs_le a c hc; have w2 := F2_lt; refine st_call (some 12) rfl rfl (sfits_any a c W1 (decide_eq_true e0)) (ex_call (f := 55) (vs := [(.int .i64 a), (.int .i64 c)]) rfl (cf55 _) rfl) ?_; rintro e W2 ⟨rfl, B⟩; refine ⟨_, rfl, ?_⟩; simp only [zp]; replace E := below_next E B; replace k1 := keep B k1; refine vv (.bool false) 13 rfl rfl (ex_not rfl rfl rfl) ?_; refine st_end ?_; subst hQ; refine wp_cond_false rfl ?_; refine wp_skip ?_; refine wq fun Q hQ => ?_; refine vm (.int .i64 a) 14 rfl rfl rfl rfl ?_; refine vm (.int .i64 c) 15 rfl rfl rfl rfl ?_
    refine st_call (some 16) rfl rfl (sguess_any a c W2 hc) (ex_call (f := 56) (vs := [(.int .i64 a), (.int .i64 c)]) rfl (cf56 _) rfl) ?_; rintro e W3 ⟨rfl, B⟩; refine ⟨_, rfl, ?_⟩; simp only [zp]; replace E := below_next E B; replace k1 := keep B k1; refine vg (.float .f64 (gs a c)) 9 rfl rfl rfl rfl ?_; refine st_end ?_; subst hQ; refine wp_seq ?_; refine wq fun Q hQ => ?_; refine vv (Pz b1 1) 17 rfl rfl (ex_fa (p := (Pz b1 0)) rfl rfl (fa47_1 _ _)) ?_; refine vv (.int .i64 p.gat) 18 rfl rfl (ex_load (p := (Pz b1 1)) rfl rfl (ld3 (at_cell k1 rfl))) ?_
    by_cases e1 : 0 < p.gat
    · skip
      refine vv (.bool true) 19 rfl rfl (ex_bin (u := (.int .i64 p.gat)) (r := (.int .i64 0)) rfl rfl rfl (eg3 _ _ _ _ _ _) (gtr3 _ (decide_eq_true (by omega)))) ?_; refine vm (.bool true) 20 rfl rfl rfl rfl ?_; refine vm (.int .i64 a) 21 rfl rfl rfl rfl ?_; refine vv (Pz b1 0) 22 rfl rfl (ex_fa (p := (Pz b1 0)) rfl rfl (fa47_0 _ _)) ?_; refine vv (.int .i64 p.good) 23 rfl rfl (ex_load (p := (Pz b1 0)) rfl rfl (ld3 (at_cell k1 rfl))) ?_
      by_cases e2 : a ≤ p.good
      · skip
        refine vv (.bool true) 24 rfl rfl (ex_bin (u := (.int .i64 a)) (r := (.int .i64 p.good)) rfl rfl rfl (eg3 _ _ _ _ _ _) (leq3 _ (decide_eq_true (by omega)))) ?_; refine vv (.bool true) 25 rfl rfl (ex_pkT rfl rfl rfl) ?_; refine st_end ?_; subst hQ; refine wp_cond_true rfl ?_; refine wl_in (wl_cap fun Q hQ => ?_); refine vm (.float .f64 (gs a c)) 26 rfl rfl rfl rfl ?_; refine vm (.float .f64 (gs a c)) 27 rfl rfl rfl rfl ?_; refine vv (.float .f64 (fsub F1 (gs a c))) 28 rfl rfl (ex_bin rfl rfl rfl (egF _ _ _ _ _ _) (fsub_run _ ((up_facts LG (wt_le (ageN t p.gat))).1))) ?_
        refine vm (.int .i64 t) 29 rfl rfl rfl rfl ?_; refine vv (Pz b1 1) 30 rfl rfl (ex_fa (p := (Pz b1 0)) rfl rfl (fa47_1 _ _)) ?_; refine vv (.int .i64 p.gat) 31 rfl rfl (ex_load (p := (Pz b1 1)) rfl rfl (ld3 (at_cell k1 rfl))) ?_; refine st_call (some 32) rfl rfl (ssince_any t p.gat W3 t2 e1) (ex_call (f := 58) (vs := [(.int .i64 t), (.int .i64 p.gat)]) rfl (cf58 _) rfl) ?_; rintro e W4 ⟨rfl, B⟩; refine ⟨_, rfl, ?_⟩; simp only [zp]; replace E := below_next E B; replace k1 := keep B k1
        refine st_call (some 33) rfl rfl (sweight_any (ageN t p.gat) W4 (age_le t1 t2 hg1 hg2)) (ex_call (f := 57) (vs := [(.int .i64 (ageN t p.gat))]) rfl (cf57 _) rfl) ?_; rintro e W5 ⟨rfl, B⟩; refine ⟨_, rfl, ?_⟩; simp only [zp]; replace E := below_next E B; replace k1 := keep B k1; refine vv (.float .f64 (fmul (fsub F1 (gs a c)) (wt (ageN t p.gat)))) 34 rfl rfl (ex_bin rfl rfl rfl (egF _ _ _ _ _ _) (fmul_run _ ((up_facts LG (wt_le (ageN t p.gat))).2.1))) ?_
        refine vv (.float .f64 (fadd (gs a c) (fmul (fsub F1 (gs a c)) (wt (ageN t p.gat))))) 35 rfl rfl (ex_bin rfl rfl rfl (egF _ _ _ _ _ _) (fadd_run _ ((up_facts LG (wt_le (ageN t p.gat))).2.2.1))) ?_; refine vg (.float .f64 (fadd (gs a c) (fmul (fsub F1 (gs a c)) (wt (ageN t p.gat))))) 9 rfl rfl rfl rfl ?_; refine st_end ?_; subst hQ; refine wp_seq ?_; refine wq fun Q hQ => ?_; refine vv (Pz b1 3) 36 rfl rfl (ex_fa (p := (Pz b1 0)) rfl rfl (fa47_3 _ _)) ?_; refine vv (.int .i64 p.bat) 37 rfl rfl (ex_load (p := (Pz b1 3)) rfl rfl (ld3 (at_cell k1 rfl))) ?_
        by_cases e3 : 0 < p.bat
        · skip
          refine vv (.bool true) 38 rfl rfl (ex_bin (u := (.int .i64 p.bat)) (r := (.int .i64 0)) rfl rfl rfl (eg3 _ _ _ _ _ _) (gtr3 _ (decide_eq_true (by omega)))) ?_; refine vm (.bool true) 39 rfl rfl rfl rfl ?_; refine vm (.int .i64 a) 40 rfl rfl rfl rfl ?_; refine vv (Pz b1 2) 41 rfl rfl (ex_fa (p := (Pz b1 0)) rfl rfl (fa47_2 _ _)) ?_; refine vv (.int .i64 p.bad) 42 rfl rfl (ex_load (p := (Pz b1 2)) rfl rfl (ld3 (at_cell k1 rfl))) ?_
          by_cases e4 : p.bad ≤ a
          · skip
            have HG : (fmul (fadd (gs a c) (fmul (fsub F1 (gs a c)) (wt (ageN t p.gat)))) (fsub F1 (wt (ageN t p.bat)))) < 18446744073709551616 := by have := (dn_facts (show (fadd (gs a c) (fmul (fsub F1 (gs a c)) (wt (ageN t p.gat)))) ≤ F2 from (up_facts LG (wt_le (ageN t p.gat))).2.2.2) (wt_le (ageN t p.bat))).2.2; omega
            refine vv (.bool true) 43 rfl rfl (ex_bin (u := (.int .i64 a)) (r := (.int .i64 p.bad)) rfl rfl rfl (eg3 _ _ _ _ _ _) (geq3 _ (decide_eq_true (by omega)))) ?_; refine vv (.bool true) 44 rfl rfl (ex_pkT rfl rfl rfl) ?_; refine st_end ?_; subst hQ; refine wp_cond_true rfl ?_; refine wl_in (wl_cap fun Q hQ => ?_); refine vm (.float .f64 (fadd (gs a c) (fmul (fsub F1 (gs a c)) (wt (ageN t p.gat))))) 45 rfl rfl rfl rfl ?_; refine vm (.int .i64 t) 46 rfl rfl rfl rfl ?_; refine vv (Pz b1 3) 47 rfl rfl (ex_fa (p := (Pz b1 0)) rfl rfl (fa47_3 _ _)) ?_
            refine vv (.int .i64 p.bat) 48 rfl rfl (ex_load (p := (Pz b1 3)) rfl rfl (ld3 (at_cell k1 rfl))) ?_; refine st_call (some 49) rfl rfl (ssince_any t p.bat W5 t2 e3) (ex_call (f := 58) (vs := [(.int .i64 t), (.int .i64 p.bat)]) rfl (cf58 _) rfl) ?_; rintro e W6 ⟨rfl, B⟩; refine ⟨_, rfl, ?_⟩; simp only [zp]; replace E := below_next E B; replace k1 := keep B k1; refine st_call (some 50) rfl rfl (sweight_any (ageN t p.bat) W6 (age_le t1 t2 hb1 hb2)) (ex_call (f := 57) (vs := [(.int .i64 (ageN t p.bat))]) rfl (cf57 _) rfl) ?_; rintro e W7 ⟨rfl, B⟩; refine ⟨_, rfl, ?_⟩
            simp only [zp]; replace E := below_next E B; replace k1 := keep B k1; refine vv (.float .f64 (fsub F1 (wt (ageN t p.bat)))) 51 rfl rfl (ex_bin rfl rfl rfl (egF _ _ _ _ _ _) (fsub_run _ ((dn_facts (show (fadd (gs a c) (fmul (fsub F1 (gs a c)) (wt (ageN t p.gat)))) ≤ F2 from (up_facts LG (wt_le (ageN t p.gat))).2.2.2) (wt_le (ageN t p.bat))).1))) ?_
            refine vv (.float .f64 (fmul (fadd (gs a c) (fmul (fsub F1 (gs a c)) (wt (ageN t p.gat)))) (fsub F1 (wt (ageN t p.bat))))) 52 rfl rfl (ex_bin rfl rfl rfl (egF _ _ _ _ _ _) (fmul_run _ ((dn_facts (show (fadd (gs a c) (fmul (fsub F1 (gs a c)) (wt (ageN t p.gat)))) ≤ F2 from (up_facts LG (wt_le (ageN t p.gat))).2.2.2) (wt_le (ageN t p.bat))).2.1))) ?_; refine vg (.float .f64 (fmul (fadd (gs a c) (fmul (fsub F1 (gs a c)) (wt (ageN t p.gat)))) (fsub F1 (wt (ageN t p.bat))))) 9 rfl rfl rfl rfl ?_; refine st_end ?_; subst hQ; refine wq fun Q hQ => ?_
            refine vm (.float .f64 (fmul (fadd (gs a c) (fmul (fsub F1 (gs a c)) (wt (ageN t p.gat)))) (fsub F1 (wt (ageN t p.bat))))) 53 rfl rfl rfl rfl ?_; refine st_call (some 54) rfl rfl (sclean_any (fmul (fadd (gs a c) (fmul (fsub F1 (gs a c)) (wt (ageN t p.gat)))) (fsub F1 (wt (ageN t p.bat)))) W7 HG) (ex_call (f := 53) (vs := [(.float .f64 (fmul (fadd (gs a c) (fmul (fsub F1 (gs a c)) (wt (ageN t p.gat)))) (fsub F1 (wt (ageN t p.bat)))))]) rfl (cf53 _) rfl) ?_; rintro e W8 ⟨rfl, B⟩; refine ⟨_, rfl, ?_⟩; simp only [zp]; replace E := below_next E B; replace k1 := keep B k1
            refine vg (.float .f64 (cln (fmul (fadd (gs a c) (fmul (fsub F1 (gs a c)) (wt (ageN t p.gat)))) (fsub F1 (wt (ageN t p.bat)))))) 8 rfl rfl rfl rfl ?_; refine st_end ?_; subst hQ; refine wp_ret ?_
            repeat (first | refine ret_out ?_ | refine ret_blk ?_)
            refine bodyPost_ret (results_tmp Try.results17 _ _ _) rfl ⟨?_, E⟩
            unfold chN
            rw [if_neg (by omega)]
            have q1 : c1 p a t (gs a c) = (fadd (gs a c) (fmul (fsub F1 (gs a c)) (wt (ageN t p.gat)))) := by unfold c1; rw [if_pos ⟨e1, e2⟩]
            have q2 : c2 p a t (fadd (gs a c) (fmul (fsub F1 (gs a c)) (wt (ageN t p.gat)))) = (fmul (fadd (gs a c) (fmul (fsub F1 (gs a c)) (wt (ageN t p.gat)))) (fsub F1 (wt (ageN t p.bat)))) := by unfold c2; rw [if_pos ⟨e3, e4⟩]
            rw [q1, q2]
            rfl
          · skip
            have HG : (fadd (gs a c) (fmul (fsub F1 (gs a c)) (wt (ageN t p.gat)))) < 18446744073709551616 := by have := (show (fadd (gs a c) (fmul (fsub F1 (gs a c)) (wt (ageN t p.gat)))) ≤ F2 from (up_facts LG (wt_le (ageN t p.gat))).2.2.2); omega
            refine vv (.bool false) 43 rfl rfl (ex_bin (u := (.int .i64 a)) (r := (.int .i64 p.bad)) rfl rfl rfl (eg3 _ _ _ _ _ _) (geq3 _ (decide_eq_false (by omega)))) ?_; refine vv (.bool false) 44 rfl rfl (ex_pkT rfl rfl rfl) ?_; refine st_end ?_; subst hQ; refine wp_cond_false rfl ?_; refine wp_skip ?_; refine wq fun Q hQ => ?_; refine vm (.float .f64 (fadd (gs a c) (fmul (fsub F1 (gs a c)) (wt (ageN t p.gat))))) 53 rfl rfl rfl rfl ?_
            refine st_call (some 54) rfl rfl (sclean_any (fadd (gs a c) (fmul (fsub F1 (gs a c)) (wt (ageN t p.gat)))) W5 HG) (ex_call (f := 53) (vs := [(.float .f64 (fadd (gs a c) (fmul (fsub F1 (gs a c)) (wt (ageN t p.gat)))))]) rfl (cf53 _) rfl) ?_; rintro e W6 ⟨rfl, B⟩; refine ⟨_, rfl, ?_⟩; simp only [zp]; replace E := below_next E B; replace k1 := keep B k1; refine vg (.float .f64 (cln (fadd (gs a c) (fmul (fsub F1 (gs a c)) (wt (ageN t p.gat)))))) 8 rfl rfl rfl rfl ?_; refine st_end ?_; subst hQ; refine wp_ret ?_
            repeat (first | refine ret_out ?_ | refine ret_blk ?_)
            refine bodyPost_ret (results_tmp Try.results17 _ _ _) rfl ⟨?_, E⟩
            unfold chN
            rw [if_neg (by omega)]
            have q1 : c1 p a t (gs a c) = (fadd (gs a c) (fmul (fsub F1 (gs a c)) (wt (ageN t p.gat)))) := by unfold c1; rw [if_pos ⟨e1, e2⟩]
            have q2 : c2 p a t (fadd (gs a c) (fmul (fsub F1 (gs a c)) (wt (ageN t p.gat)))) = (fadd (gs a c) (fmul (fsub F1 (gs a c)) (wt (ageN t p.gat)))) := by unfold c2; rw [if_neg (by omega)]
            rw [q1, q2]
            rfl
        · skip
          have HG : (fadd (gs a c) (fmul (fsub F1 (gs a c)) (wt (ageN t p.gat)))) < 18446744073709551616 := by have := (show (fadd (gs a c) (fmul (fsub F1 (gs a c)) (wt (ageN t p.gat)))) ≤ F2 from (up_facts LG (wt_le (ageN t p.gat))).2.2.2); omega
          refine vv (.bool false) 38 rfl rfl (ex_bin (u := (.int .i64 p.bat)) (r := (.int .i64 0)) rfl rfl rfl (eg3 _ _ _ _ _ _) (gtr3 _ (decide_eq_false (by omega)))) ?_; refine vm (.bool false) 39 rfl rfl rfl rfl ?_; refine vn 40 rfl rfl ?_; refine vn 41 rfl rfl ?_; refine vn 42 rfl rfl ?_; refine vn 43 rfl rfl ?_; refine vv (.bool false) 44 rfl rfl (ex_pkF rfl rfl rfl) ?_; refine st_end ?_; subst hQ; refine wp_cond_false rfl ?_; refine wp_skip ?_; refine wq fun Q hQ => ?_; refine vm (.float .f64 (fadd (gs a c) (fmul (fsub F1 (gs a c)) (wt (ageN t p.gat))))) 53 rfl rfl rfl rfl ?_
          refine st_call (some 54) rfl rfl (sclean_any (fadd (gs a c) (fmul (fsub F1 (gs a c)) (wt (ageN t p.gat)))) W5 HG) (ex_call (f := 53) (vs := [(.float .f64 (fadd (gs a c) (fmul (fsub F1 (gs a c)) (wt (ageN t p.gat)))))]) rfl (cf53 _) rfl) ?_; rintro e W6 ⟨rfl, B⟩; refine ⟨_, rfl, ?_⟩; simp only [zp]; replace E := below_next E B; replace k1 := keep B k1; refine vg (.float .f64 (cln (fadd (gs a c) (fmul (fsub F1 (gs a c)) (wt (ageN t p.gat)))))) 8 rfl rfl rfl rfl ?_; refine st_end ?_; subst hQ; refine wp_ret ?_
          repeat (first | refine ret_out ?_ | refine ret_blk ?_)
          refine bodyPost_ret (results_tmp Try.results17 _ _ _) rfl ⟨?_, E⟩
          unfold chN
          rw [if_neg (by omega)]
          have q1 : c1 p a t (gs a c) = (fadd (gs a c) (fmul (fsub F1 (gs a c)) (wt (ageN t p.gat)))) := by unfold c1; rw [if_pos ⟨e1, e2⟩]
          have q2 : c2 p a t (fadd (gs a c) (fmul (fsub F1 (gs a c)) (wt (ageN t p.gat)))) = (fadd (gs a c) (fmul (fsub F1 (gs a c)) (wt (ageN t p.gat)))) := by unfold c2; rw [if_neg (by omega)]
          rw [q1, q2]
          rfl
      · skip
        refine vv (.bool false) 24 rfl rfl (ex_bin (u := (.int .i64 a)) (r := (.int .i64 p.good)) rfl rfl rfl (eg3 _ _ _ _ _ _) (leq3 _ (decide_eq_false (by omega)))) ?_; refine vv (.bool false) 25 rfl rfl (ex_pkT rfl rfl rfl) ?_; refine st_end ?_; subst hQ; refine wp_cond_false rfl ?_; refine wp_skip ?_; refine wp_seq ?_; refine wq fun Q hQ => ?_; refine vv (Pz b1 3) 36 rfl rfl (ex_fa (p := (Pz b1 0)) rfl rfl (fa47_3 _ _)) ?_; refine vv (.int .i64 p.bat) 37 rfl rfl (ex_load (p := (Pz b1 3)) rfl rfl (ld3 (at_cell k1 rfl))) ?_
        by_cases e3 : 0 < p.bat
        · skip
          refine vv (.bool true) 38 rfl rfl (ex_bin (u := (.int .i64 p.bat)) (r := (.int .i64 0)) rfl rfl rfl (eg3 _ _ _ _ _ _) (gtr3 _ (decide_eq_true (by omega)))) ?_; refine vm (.bool true) 39 rfl rfl rfl rfl ?_; refine vm (.int .i64 a) 40 rfl rfl rfl rfl ?_; refine vv (Pz b1 2) 41 rfl rfl (ex_fa (p := (Pz b1 0)) rfl rfl (fa47_2 _ _)) ?_; refine vv (.int .i64 p.bad) 42 rfl rfl (ex_load (p := (Pz b1 2)) rfl rfl (ld3 (at_cell k1 rfl))) ?_
          by_cases e4 : p.bad ≤ a
          · skip
            have HG : (fmul (gs a c) (fsub F1 (wt (ageN t p.bat)))) < 18446744073709551616 := by have := (dn_facts (show (gs a c) ≤ F2 by have : F1 ≤ F2 := (by decide); omega) (wt_le (ageN t p.bat))).2.2; omega
            refine vv (.bool true) 43 rfl rfl (ex_bin (u := (.int .i64 a)) (r := (.int .i64 p.bad)) rfl rfl rfl (eg3 _ _ _ _ _ _) (geq3 _ (decide_eq_true (by omega)))) ?_; refine vv (.bool true) 44 rfl rfl (ex_pkT rfl rfl rfl) ?_; refine st_end ?_; subst hQ; refine wp_cond_true rfl ?_; refine wl_in (wl_cap fun Q hQ => ?_); refine vm (.float .f64 (gs a c)) 45 rfl rfl rfl rfl ?_; refine vm (.int .i64 t) 46 rfl rfl rfl rfl ?_; refine vv (Pz b1 3) 47 rfl rfl (ex_fa (p := (Pz b1 0)) rfl rfl (fa47_3 _ _)) ?_
            refine vv (.int .i64 p.bat) 48 rfl rfl (ex_load (p := (Pz b1 3)) rfl rfl (ld3 (at_cell k1 rfl))) ?_; refine st_call (some 49) rfl rfl (ssince_any t p.bat W3 t2 e3) (ex_call (f := 58) (vs := [(.int .i64 t), (.int .i64 p.bat)]) rfl (cf58 _) rfl) ?_; rintro e W4 ⟨rfl, B⟩; refine ⟨_, rfl, ?_⟩; simp only [zp]; replace E := below_next E B; replace k1 := keep B k1; refine st_call (some 50) rfl rfl (sweight_any (ageN t p.bat) W4 (age_le t1 t2 hb1 hb2)) (ex_call (f := 57) (vs := [(.int .i64 (ageN t p.bat))]) rfl (cf57 _) rfl) ?_; rintro e W5 ⟨rfl, B⟩; refine ⟨_, rfl, ?_⟩
            simp only [zp]; replace E := below_next E B; replace k1 := keep B k1; refine vv (.float .f64 (fsub F1 (wt (ageN t p.bat)))) 51 rfl rfl (ex_bin rfl rfl rfl (egF _ _ _ _ _ _) (fsub_run _ ((dn_facts (show (gs a c) ≤ F2 by have : F1 ≤ F2 := (by decide); omega) (wt_le (ageN t p.bat))).1))) ?_; refine vv (.float .f64 (fmul (gs a c) (fsub F1 (wt (ageN t p.bat))))) 52 rfl rfl (ex_bin rfl rfl rfl (egF _ _ _ _ _ _) (fmul_run _ ((dn_facts (show (gs a c) ≤ F2 by have : F1 ≤ F2 := (by decide); omega) (wt_le (ageN t p.bat))).2.1))) ?_
            refine vg (.float .f64 (fmul (gs a c) (fsub F1 (wt (ageN t p.bat))))) 9 rfl rfl rfl rfl ?_; refine st_end ?_; subst hQ; refine wq fun Q hQ => ?_; refine vm (.float .f64 (fmul (gs a c) (fsub F1 (wt (ageN t p.bat))))) 53 rfl rfl rfl rfl ?_; refine st_call (some 54) rfl rfl (sclean_any (fmul (gs a c) (fsub F1 (wt (ageN t p.bat)))) W5 HG) (ex_call (f := 53) (vs := [(.float .f64 (fmul (gs a c) (fsub F1 (wt (ageN t p.bat)))))]) rfl (cf53 _) rfl) ?_; rintro e W6 ⟨rfl, B⟩; refine ⟨_, rfl, ?_⟩; simp only [zp]; replace E := below_next E B; replace k1 := keep B k1
            refine vg (.float .f64 (cln (fmul (gs a c) (fsub F1 (wt (ageN t p.bat)))))) 8 rfl rfl rfl rfl ?_; refine st_end ?_; subst hQ; refine wp_ret ?_
            repeat (first | refine ret_out ?_ | refine ret_blk ?_)
            refine bodyPost_ret (results_tmp Try.results17 _ _ _) rfl ⟨?_, E⟩
            unfold chN
            rw [if_neg (by omega)]
            have q1 : c1 p a t (gs a c) = (gs a c) := by unfold c1; rw [if_neg (by omega)]
            have q2 : c2 p a t (gs a c) = (fmul (gs a c) (fsub F1 (wt (ageN t p.bat)))) := by unfold c2; rw [if_pos ⟨e3, e4⟩]
            rw [q1, q2]
            rfl
          · skip
            have HG : (gs a c) < 18446744073709551616 := by have := (show (gs a c) ≤ F2 by have : F1 ≤ F2 := (by decide); omega); omega
            refine vv (.bool false) 43 rfl rfl (ex_bin (u := (.int .i64 a)) (r := (.int .i64 p.bad)) rfl rfl rfl (eg3 _ _ _ _ _ _) (geq3 _ (decide_eq_false (by omega)))) ?_; refine vv (.bool false) 44 rfl rfl (ex_pkT rfl rfl rfl) ?_; refine st_end ?_; subst hQ; refine wp_cond_false rfl ?_; refine wp_skip ?_; refine wq fun Q hQ => ?_; refine vm (.float .f64 (gs a c)) 53 rfl rfl rfl rfl ?_; refine st_call (some 54) rfl rfl (sclean_any (gs a c) W3 HG) (ex_call (f := 53) (vs := [(.float .f64 (gs a c))]) rfl (cf53 _) rfl) ?_; rintro e W4 ⟨rfl, B⟩; refine ⟨_, rfl, ?_⟩; simp only [zp]
            replace E := below_next E B; replace k1 := keep B k1; refine vg (.float .f64 (cln (gs a c))) 8 rfl rfl rfl rfl ?_; refine st_end ?_; subst hQ; refine wp_ret ?_
            repeat (first | refine ret_out ?_ | refine ret_blk ?_)
            refine bodyPost_ret (results_tmp Try.results17 _ _ _) rfl ⟨?_, E⟩
            unfold chN
            rw [if_neg (by omega)]
            have q1 : c1 p a t (gs a c) = (gs a c) := by unfold c1; rw [if_neg (by omega)]
            have q2 : c2 p a t (gs a c) = (gs a c) := by unfold c2; rw [if_neg (by omega)]
            rw [q1, q2]
            rfl
        · skip
          have HG : (gs a c) < 18446744073709551616 := by have := (show (gs a c) ≤ F2 by have : F1 ≤ F2 := (by decide); omega); omega
          refine vv (.bool false) 38 rfl rfl (ex_bin (u := (.int .i64 p.bat)) (r := (.int .i64 0)) rfl rfl rfl (eg3 _ _ _ _ _ _) (gtr3 _ (decide_eq_false (by omega)))) ?_; refine vm (.bool false) 39 rfl rfl rfl rfl ?_; refine vn 40 rfl rfl ?_; refine vn 41 rfl rfl ?_; refine vn 42 rfl rfl ?_; refine vn 43 rfl rfl ?_; refine vv (.bool false) 44 rfl rfl (ex_pkF rfl rfl rfl) ?_; refine st_end ?_; subst hQ; refine wp_cond_false rfl ?_; refine wp_skip ?_; refine wq fun Q hQ => ?_; refine vm (.float .f64 (gs a c)) 53 rfl rfl rfl rfl ?_
          refine st_call (some 54) rfl rfl (sclean_any (gs a c) W3 HG) (ex_call (f := 53) (vs := [(.float .f64 (gs a c))]) rfl (cf53 _) rfl) ?_; rintro e W4 ⟨rfl, B⟩; refine ⟨_, rfl, ?_⟩; simp only [zp]; replace E := below_next E B; replace k1 := keep B k1; refine vg (.float .f64 (cln (gs a c))) 8 rfl rfl rfl rfl ?_; refine st_end ?_; subst hQ; refine wp_ret ?_
          repeat (first | refine ret_out ?_ | refine ret_blk ?_)
          refine bodyPost_ret (results_tmp Try.results17 _ _ _) rfl ⟨?_, E⟩
          unfold chN
          rw [if_neg (by omega)]
          have q1 : c1 p a t (gs a c) = (gs a c) := by unfold c1; rw [if_neg (by omega)]
          have q2 : c2 p a t (gs a c) = (gs a c) := by unfold c2; rw [if_neg (by omega)]
          rw [q1, q2]
          rfl
    · skip
      refine vv (.bool false) 19 rfl rfl (ex_bin (u := (.int .i64 p.gat)) (r := (.int .i64 0)) rfl rfl rfl (eg3 _ _ _ _ _ _) (gtr3 _ (decide_eq_false (by omega)))) ?_; refine vm (.bool false) 20 rfl rfl rfl rfl ?_; refine vn 21 rfl rfl ?_; refine vn 22 rfl rfl ?_; refine vn 23 rfl rfl ?_; refine vn 24 rfl rfl ?_; refine vv (.bool false) 25 rfl rfl (ex_pkF rfl rfl rfl) ?_; refine st_end ?_; subst hQ; refine wp_cond_false rfl ?_; refine wp_skip ?_; refine wp_seq ?_; refine wq fun Q hQ => ?_; refine vv (Pz b1 3) 36 rfl rfl (ex_fa (p := (Pz b1 0)) rfl rfl (fa47_3 _ _)) ?_
      refine vv (.int .i64 p.bat) 37 rfl rfl (ex_load (p := (Pz b1 3)) rfl rfl (ld3 (at_cell k1 rfl))) ?_
      by_cases e3 : 0 < p.bat
      · skip
        refine vv (.bool true) 38 rfl rfl (ex_bin (u := (.int .i64 p.bat)) (r := (.int .i64 0)) rfl rfl rfl (eg3 _ _ _ _ _ _) (gtr3 _ (decide_eq_true (by omega)))) ?_; refine vm (.bool true) 39 rfl rfl rfl rfl ?_; refine vm (.int .i64 a) 40 rfl rfl rfl rfl ?_; refine vv (Pz b1 2) 41 rfl rfl (ex_fa (p := (Pz b1 0)) rfl rfl (fa47_2 _ _)) ?_; refine vv (.int .i64 p.bad) 42 rfl rfl (ex_load (p := (Pz b1 2)) rfl rfl (ld3 (at_cell k1 rfl))) ?_
        by_cases e4 : p.bad ≤ a
        · skip
          have HG : (fmul (gs a c) (fsub F1 (wt (ageN t p.bat)))) < 18446744073709551616 := by have := (dn_facts (show (gs a c) ≤ F2 by have : F1 ≤ F2 := (by decide); omega) (wt_le (ageN t p.bat))).2.2; omega
          refine vv (.bool true) 43 rfl rfl (ex_bin (u := (.int .i64 a)) (r := (.int .i64 p.bad)) rfl rfl rfl (eg3 _ _ _ _ _ _) (geq3 _ (decide_eq_true (by omega)))) ?_; refine vv (.bool true) 44 rfl rfl (ex_pkT rfl rfl rfl) ?_; refine st_end ?_; subst hQ; refine wp_cond_true rfl ?_; refine wl_in (wl_cap fun Q hQ => ?_); refine vm (.float .f64 (gs a c)) 45 rfl rfl rfl rfl ?_; refine vm (.int .i64 t) 46 rfl rfl rfl rfl ?_; refine vv (Pz b1 3) 47 rfl rfl (ex_fa (p := (Pz b1 0)) rfl rfl (fa47_3 _ _)) ?_
          refine vv (.int .i64 p.bat) 48 rfl rfl (ex_load (p := (Pz b1 3)) rfl rfl (ld3 (at_cell k1 rfl))) ?_; refine st_call (some 49) rfl rfl (ssince_any t p.bat W3 t2 e3) (ex_call (f := 58) (vs := [(.int .i64 t), (.int .i64 p.bat)]) rfl (cf58 _) rfl) ?_; rintro e W4 ⟨rfl, B⟩; refine ⟨_, rfl, ?_⟩; simp only [zp]; replace E := below_next E B; replace k1 := keep B k1; refine st_call (some 50) rfl rfl (sweight_any (ageN t p.bat) W4 (age_le t1 t2 hb1 hb2)) (ex_call (f := 57) (vs := [(.int .i64 (ageN t p.bat))]) rfl (cf57 _) rfl) ?_; rintro e W5 ⟨rfl, B⟩; refine ⟨_, rfl, ?_⟩
          simp only [zp]; replace E := below_next E B; replace k1 := keep B k1; refine vv (.float .f64 (fsub F1 (wt (ageN t p.bat)))) 51 rfl rfl (ex_bin rfl rfl rfl (egF _ _ _ _ _ _) (fsub_run _ ((dn_facts (show (gs a c) ≤ F2 by have : F1 ≤ F2 := (by decide); omega) (wt_le (ageN t p.bat))).1))) ?_; refine vv (.float .f64 (fmul (gs a c) (fsub F1 (wt (ageN t p.bat))))) 52 rfl rfl (ex_bin rfl rfl rfl (egF _ _ _ _ _ _) (fmul_run _ ((dn_facts (show (gs a c) ≤ F2 by have : F1 ≤ F2 := (by decide); omega) (wt_le (ageN t p.bat))).2.1))) ?_
          refine vg (.float .f64 (fmul (gs a c) (fsub F1 (wt (ageN t p.bat))))) 9 rfl rfl rfl rfl ?_; refine st_end ?_; subst hQ; refine wq fun Q hQ => ?_; refine vm (.float .f64 (fmul (gs a c) (fsub F1 (wt (ageN t p.bat))))) 53 rfl rfl rfl rfl ?_; refine st_call (some 54) rfl rfl (sclean_any (fmul (gs a c) (fsub F1 (wt (ageN t p.bat)))) W5 HG) (ex_call (f := 53) (vs := [(.float .f64 (fmul (gs a c) (fsub F1 (wt (ageN t p.bat)))))]) rfl (cf53 _) rfl) ?_; rintro e W6 ⟨rfl, B⟩; refine ⟨_, rfl, ?_⟩; simp only [zp]; replace E := below_next E B; replace k1 := keep B k1
          refine vg (.float .f64 (cln (fmul (gs a c) (fsub F1 (wt (ageN t p.bat)))))) 8 rfl rfl rfl rfl ?_; refine st_end ?_; subst hQ; refine wp_ret ?_
          repeat (first | refine ret_out ?_ | refine ret_blk ?_)
          refine bodyPost_ret (results_tmp Try.results17 _ _ _) rfl ⟨?_, E⟩
          unfold chN
          rw [if_neg (by omega)]
          have q1 : c1 p a t (gs a c) = (gs a c) := by unfold c1; rw [if_neg (by omega)]
          have q2 : c2 p a t (gs a c) = (fmul (gs a c) (fsub F1 (wt (ageN t p.bat)))) := by unfold c2; rw [if_pos ⟨e3, e4⟩]
          rw [q1, q2]
          rfl
        · skip
          have HG : (gs a c) < 18446744073709551616 := by have := (show (gs a c) ≤ F2 by have : F1 ≤ F2 := (by decide); omega); omega
          refine vv (.bool false) 43 rfl rfl (ex_bin (u := (.int .i64 a)) (r := (.int .i64 p.bad)) rfl rfl rfl (eg3 _ _ _ _ _ _) (geq3 _ (decide_eq_false (by omega)))) ?_; refine vv (.bool false) 44 rfl rfl (ex_pkT rfl rfl rfl) ?_; refine st_end ?_; subst hQ; refine wp_cond_false rfl ?_; refine wp_skip ?_; refine wq fun Q hQ => ?_; refine vm (.float .f64 (gs a c)) 53 rfl rfl rfl rfl ?_; refine st_call (some 54) rfl rfl (sclean_any (gs a c) W3 HG) (ex_call (f := 53) (vs := [(.float .f64 (gs a c))]) rfl (cf53 _) rfl) ?_; rintro e W4 ⟨rfl, B⟩; refine ⟨_, rfl, ?_⟩; simp only [zp]
          replace E := below_next E B; replace k1 := keep B k1; refine vg (.float .f64 (cln (gs a c))) 8 rfl rfl rfl rfl ?_; refine st_end ?_; subst hQ; refine wp_ret ?_
          repeat (first | refine ret_out ?_ | refine ret_blk ?_)
          refine bodyPost_ret (results_tmp Try.results17 _ _ _) rfl ⟨?_, E⟩
          unfold chN
          rw [if_neg (by omega)]
          have q1 : c1 p a t (gs a c) = (gs a c) := by unfold c1; rw [if_neg (by omega)]
          have q2 : c2 p a t (gs a c) = (gs a c) := by unfold c2; rw [if_neg (by omega)]
          rw [q1, q2]
          rfl
      · skip
        have HG : (gs a c) < 18446744073709551616 := by have := (show (gs a c) ≤ F2 by have : F1 ≤ F2 := (by decide); omega); omega
        refine vv (.bool false) 38 rfl rfl (ex_bin (u := (.int .i64 p.bat)) (r := (.int .i64 0)) rfl rfl rfl (eg3 _ _ _ _ _ _) (gtr3 _ (decide_eq_false (by omega)))) ?_; refine vm (.bool false) 39 rfl rfl rfl rfl ?_; refine vn 40 rfl rfl ?_; refine vn 41 rfl rfl ?_; refine vn 42 rfl rfl ?_; refine vn 43 rfl rfl ?_; refine vv (.bool false) 44 rfl rfl (ex_pkF rfl rfl rfl) ?_; refine st_end ?_; subst hQ; refine wp_cond_false rfl ?_; refine wp_skip ?_; refine wq fun Q hQ => ?_; refine vm (.float .f64 (gs a c)) 53 rfl rfl rfl rfl ?_
        refine st_call (some 54) rfl rfl (sclean_any (gs a c) W3 HG) (ex_call (f := 53) (vs := [(.float .f64 (gs a c))]) rfl (cf53 _) rfl) ?_; rintro e W4 ⟨rfl, B⟩; refine ⟨_, rfl, ?_⟩; simp only [zp]; replace E := below_next E B; replace k1 := keep B k1; refine vg (.float .f64 (cln (gs a c))) 8 rfl rfl rfl rfl ?_; refine st_end ?_; subst hQ; refine wp_ret ?_
        repeat (first | refine ret_out ?_ | refine ret_blk ?_)
        refine bodyPost_ret (results_tmp Try.results17 _ _ _) rfl ⟨?_, E⟩
        unfold chN
        rw [if_neg (by omega)]
        have q1 : c1 p a t (gs a c) = (gs a c) := by unfold c1; rw [if_neg (by omega)]
        have q2 : c2 p a t (gs a c) = (gs a c) := by unfold c2; rw [if_neg (by omega)]
        rw [q1, q2]
        rfl
  · skip
    refine st_call (some 12) rfl rfl (sfits_any a c W1 (decide_eq_false e0)) (ex_call (f := 55) (vs := [(.int .i64 a), (.int .i64 c)]) rfl (cf55 _) rfl) ?_; rintro e W2 ⟨rfl, B⟩; refine ⟨_, rfl, ?_⟩; simp only [zp]; replace E := below_next E B; replace k1 := keep B k1; refine vv (.bool true) 13 rfl rfl (ex_not rfl rfl rfl) ?_; refine st_end ?_; subst hQ; refine wp_cond_true rfl ?_; refine wq fun Q hQ => ?_; refine vg (.float .f64 0) 8 rfl rfl rfl rfl ?_; refine st_end ?_; subst hQ; refine wp_ret ?_
    repeat (first | refine ret_out ?_ | refine ret_blk ?_)
    refine bodyPost_ret (results_tmp Try.results17 _ _ _) rfl ⟨?_, E⟩
    unfold chN
    rw [if_pos (by omega)]
    rfl
set_option maxHeartbeats 4000000 in
theorem scost_any (fe d : Int) (x : Nat) (w : World) (hx : x < 18446744073709551616) (f2 : fe ≤ 9223372036854775807) (d2 : d ≤ 9223372036854775807) : Calls Try.prog 16 #[.int .i64 fe, .int .i64 d, .float .f64 x] w fun e w' => e = .returned (.float .f64 (costN fe d x)) ∧ Below w.heap.size w w' := by
  have LC := cln_le hx; have w1 := F1_lt; have KC := isN_pos (show cln x ≤ 9218868437227405312 by omega); have KV := key_pos (show cln x ≤ 9218868437227405312 by omega)
  have E : Below w.heap.size w w := Below.refl _ _
  go_enter Try.func16, Try.ntmps16; refine wq fun Q hQ => ?_; refine vg (.float .f64 0) 6 rfl rfl rfl rfl ?_; refine st_end ?_; subst hQ; refine wq fun Q hQ => ?_; refine vm (.float .f64 x) 7 rfl rfl rfl rfl ?_; refine st_call (some 8) rfl rfl (sclean_any x w hx) (ex_call (f := 53) (vs := [(.float .f64 x)]) rfl (cf53 _) rfl) ?_; rintro e W1 ⟨rfl, B⟩; refine ⟨_, rfl, ?_⟩; simp only [zp]; replace E := below_next E B; refine vg (.float .f64 (cln x)) 2 rfl rfl rfl rfl ?_; refine st_end ?_; subst hQ; refine wp_seq ?_; refine wq fun Q hQ => ?_; refine vm (.int .i64 fe) 9 rfl rfl rfl rfl ?_
  by_cases e0 : fe < 0
  · skip
    refine vv (.bool true) 10 rfl rfl (ex_bin (u := (.int .i64 fe)) (r := (.int .i64 0)) rfl rfl rfl (eg3 _ _ _ _ _ _) (lss3 _ (decide_eq_true (by omega)))) ?_; refine vm (.bool true) 11 rfl rfl rfl rfl ?_; refine vn 12 rfl rfl ?_; refine vn 13 rfl rfl ?_; refine vv (.bool true) 14 rfl rfl (ex_pkT rfl rfl rfl) ?_; refine vm (.bool true) 15 rfl rfl rfl rfl ?_; refine vn 16 rfl rfl ?_; refine vn 17 rfl rfl ?_; refine vv (.bool true) 18 rfl rfl (ex_pkT rfl rfl rfl) ?_; refine st_end ?_; subst hQ; refine wp_cond_true rfl ?_; refine wq fun Q hQ => ?_
    refine st_call (some 19) rfl rfl (inf_any W1) (ex_call (f := 54) (vs := [(.int .i64 1)]) rfl (cf54 _) rfl) ?_; rintro e W2 ⟨rfl, B⟩; refine ⟨_, rfl, ?_⟩; simp only [zp]; replace E := below_next E B; refine vg (.float .f64 9218868437227405312) 6 rfl rfl rfl rfl ?_; refine st_end ?_; subst hQ; refine wp_ret ?_
    repeat (first | refine ret_out ?_ | refine ret_blk ?_)
    refine bodyPost_ret (results_tmp Try.results16 _ _ _) rfl ⟨?_, E⟩
    unfold costN
    rw [if_pos (by omega)]
    rfl
  · skip
    refine vv (.bool false) 10 rfl rfl (ex_bin (u := (.int .i64 fe)) (r := (.int .i64 0)) rfl rfl rfl (eg3 _ _ _ _ _ _) (lss3 _ (decide_eq_false (by omega)))) ?_; refine vm (.bool false) 11 rfl rfl rfl rfl ?_; refine vm (.int .i64 d) 12 rfl rfl rfl rfl ?_
    by_cases e1 : d < 0
    · skip
      refine vv (.bool true) 13 rfl rfl (ex_bin (u := (.int .i64 d)) (r := (.int .i64 0)) rfl rfl rfl (eg3 _ _ _ _ _ _) (lss3 _ (decide_eq_true (by omega)))) ?_; refine vv (.bool true) 14 rfl rfl (ex_pkF rfl rfl rfl) ?_; refine vm (.bool true) 15 rfl rfl rfl rfl ?_; refine vn 16 rfl rfl ?_; refine vn 17 rfl rfl ?_; refine vv (.bool true) 18 rfl rfl (ex_pkT rfl rfl rfl) ?_; refine st_end ?_; subst hQ; refine wp_cond_true rfl ?_; refine wq fun Q hQ => ?_; refine st_call (some 19) rfl rfl (inf_any W1) (ex_call (f := 54) (vs := [(.int .i64 1)]) rfl (cf54 _) rfl) ?_; rintro e W2 ⟨rfl, B⟩
      refine ⟨_, rfl, ?_⟩; simp only [zp]; replace E := below_next E B; refine vg (.float .f64 9218868437227405312) 6 rfl rfl rfl rfl ?_; refine st_end ?_; subst hQ; refine wp_ret ?_
      repeat (first | refine ret_out ?_ | refine ret_blk ?_)
      refine bodyPost_ret (results_tmp Try.results16 _ _ _) rfl ⟨?_, E⟩
      unfold costN
      rw [if_pos (by omega)]
      rfl
    · skip
      refine vv (.bool false) 13 rfl rfl (ex_bin (u := (.int .i64 d)) (r := (.int .i64 0)) rfl rfl rfl (eg3 _ _ _ _ _ _) (lss3 _ (decide_eq_false (by omega)))) ?_; refine vv (.bool false) 14 rfl rfl (ex_pkF rfl rfl rfl) ?_; refine vm (.bool false) 15 rfl rfl rfl rfl ?_; refine vm (.float .f64 (cln x)) 16 rfl rfl rfl rfl ?_
      by_cases e2 : cln x = 0
      · skip
        refine vv (.bool true) 17 rfl rfl (ex_bin rfl rfl rfl (egF _ _ _ _ _ _) (eqlF _ (is_eq KC N0 (decide_eq_true (by rw [KV, key_zero, e2, iv_zero]; rfl))))) ?_; refine vv (.bool true) 18 rfl rfl (ex_pkF rfl rfl rfl) ?_; refine st_end ?_; subst hQ; refine wp_cond_true rfl ?_; refine wq fun Q hQ => ?_; refine st_call (some 19) rfl rfl (inf_any W1) (ex_call (f := 54) (vs := [(.int .i64 1)]) rfl (cf54 _) rfl) ?_; rintro e W2 ⟨rfl, B⟩; refine ⟨_, rfl, ?_⟩; simp only [zp]; replace E := below_next E B; refine vg (.float .f64 9218868437227405312) 6 rfl rfl rfl rfl ?_
        refine st_end ?_; subst hQ; refine wp_ret ?_
        repeat (first | refine ret_out ?_ | refine ret_blk ?_)
        refine bodyPost_ret (results_tmp Try.results16 _ _ _) rfl ⟨?_, E⟩
        unfold costN
        rw [if_pos (by omega)]
        rfl
      · skip
        have G := cost_facts (f := fe) (d := d) (c := cln x) (by omega) f2 (by omega) d2 (by omega) LC; refine vv (.bool false) 17 rfl rfl (ex_bin rfl rfl rfl (egF _ _ _ _ _ _) (eqlF _ (is_eq KC N0 (decide_eq_false (by rw [KV, key_zero]; have := iv_pos (y := cln x) (by omega); omega))))) ?_; refine vv (.bool false) 18 rfl rfl (ex_pkF rfl rfl rfl) ?_; refine st_end ?_; subst hQ; refine wp_cond_false rfl ?_; refine wp_skip ?_; refine wq fun Q hQ => ?_; refine vm (.int .i64 fe) 20 rfl rfl rfl rfl ?_; refine vv (.float .f64 (i2f fe)) 21 rfl rfl (ex_cvt rfl rfl) ?_
        refine vm (.int .i64 d) 22 rfl rfl rfl rfl ?_; refine vv (.float .f64 (i2f d)) 23 rfl rfl (ex_cvt rfl rfl) ?_; refine vv (.float .f64 (fmul (i2f d) F10)) 24 rfl rfl (ex_bin rfl rfl rfl (egF _ _ _ _ _ _) (fmul_run _ (G.1))) ?_; refine vv (.float .f64 (fadd (i2f fe) (fmul (i2f d) F10))) 25 rfl rfl (ex_bin rfl rfl rfl (egF _ _ _ _ _ _) (fadd_run _ (G.2.2.1))) ?_; refine vm (.float .f64 (cln x)) 26 rfl rfl rfl rfl ?_; refine vv (.float .f64 (fdiv F100 (cln x))) 27 rfl rfl (ex_bin rfl rfl rfl (egF _ _ _ _ _ _) (fdiv_run _ (G.2.1))) ?_
        refine vv (.float .f64 (fadd (fadd (i2f fe) (fmul (i2f d) F10)) (fdiv F100 (cln x)))) 28 rfl rfl (ex_bin rfl rfl rfl (egF _ _ _ _ _ _) (fadd_run _ (G.2.2.2.1))) ?_; refine vg (.float .f64 (fadd (fadd (i2f fe) (fmul (i2f d) F10)) (fdiv F100 (cln x)))) 6 rfl rfl rfl rfl ?_; refine st_end ?_; subst hQ; refine wp_ret ?_
        repeat (first | refine ret_out ?_ | refine ret_blk ?_)
        refine bodyPost_ret (results_tmp Try.results16 _ _ _) rfl ⟨?_, E⟩
        unfold costN
        rw [if_neg (by omega)]
        rfl
set_option maxHeartbeats 2000000 in
theorem snum_any (x : Nat) (w : World) {c : Bool} (hc : (!isN x) = c) : Calls Try.prog 67 #[.float .f64 x] w fun e w' => e = .returned (.bool c) ∧ Below w.heap.size w w' := by
  subst hc
  have E : Below w.heap.size w w := Below.refl _ _
  go_enter Try.func67, Try.ntmps67; refine wq fun Q hQ => ?_; refine vg (.bool false) 2 rfl rfl rfl rfl ?_; refine st_end ?_; subst hQ; refine wq fun Q hQ => ?_; refine vm (.float .f64 x) 3 rfl rfl rfl rfl ?_; refine vm (.float .f64 x) 4 rfl rfl rfl rfl ?_
  by_cases e0 : isN x = true
  · skip
    refine vv (.bool false) 5 rfl rfl (ex_bin rfl rfl rfl (egF _ _ _ _ _ _) (eqlF _ (no_eq (.inl e0)))) ?_; refine vg (.bool false) 2 rfl rfl rfl rfl ?_; refine st_end ?_; subst hQ; refine wp_ret ?_
    repeat (first | refine ret_out ?_ | refine ret_blk ?_)
    refine bodyPost_ret (results_tmp Try.results67 _ _ _) rfl ⟨?_, E⟩
    show Ending.returned (.bool false) = _
    simp [e0]
  · skip
    replace e0 := Bool.eq_false_iff.2 e0; refine vv (.bool true) 5 rfl rfl (ex_bin rfl rfl rfl (egF _ _ _ _ _ _) (eqlF _ (is_eq e0 e0 (decide_eq_true rfl)))) ?_; refine vg (.bool true) 2 rfl rfl rfl rfl ?_; refine st_end ?_; subst hQ; refine wp_ret ?_
    repeat (first | refine ret_out ?_ | refine ret_blk ?_)
    refine bodyPost_ret (results_tmp Try.results67 _ _ _) rfl ⟨?_, E⟩
    show Ending.returned (.bool true) = _
    simp [e0]
set_option maxHeartbeats 2000000 in
theorem sless_any (x y : Nat) (w : World) {c : Bool} (hc : lsN x y = c) : Calls Try.prog 26 #[.float .f64 x, .float .f64 y] w fun e w' => e = .returned (.bool c) ∧ Below w.heap.size w w' := by
  subst hc
  have E : Below w.heap.size w w := Below.refl _ _
  go_enter Try.func26, Try.ntmps26; refine wq fun Q hQ => ?_; refine vg (.bool false) 4 rfl rfl rfl rfl ?_; refine st_end ?_; subst hQ; refine wq fun Q hQ => ?_; refine vm (.float .f64 x) 5 rfl rfl rfl rfl ?_; refine vm (.float .f64 y) 6 rfl rfl rfl rfl ?_
  by_cases e0 : isN x = true
  · skip
    refine vv (.bool false) 7 rfl rfl (ex_bin rfl rfl rfl (egF _ _ _ _ _ _) (lssF _ (no_lt (.inl e0)))) ?_; refine vm (.bool false) 8 rfl rfl rfl rfl ?_; refine vm (.float .f64 x) 9 rfl rfl rfl rfl ?_; refine st_call (some 10) rfl rfl (snum_any x w (c := false) (by simp [e0])) (ex_call (f := 67) (vs := [(.float .f64 x)]) rfl (cf67 _) rfl) ?_; rintro e W1 ⟨rfl, B⟩; refine ⟨_, rfl, ?_⟩; simp only [zp]; replace E := below_next E B; refine vm (.bool false) 11 rfl rfl rfl rfl ?_; refine vn 12 rfl rfl ?_; refine vn 13 rfl rfl ?_; refine vn 14 rfl rfl ?_
    refine vv (.bool false) 15 rfl rfl (ex_pkF rfl rfl rfl) ?_; refine vv (.bool false) 16 rfl rfl (ex_pkF rfl rfl rfl) ?_; refine vg (.bool false) 4 rfl rfl rfl rfl ?_; refine st_end ?_; subst hQ; refine wp_ret ?_
    repeat (first | refine ret_out ?_ | refine ret_blk ?_)
    refine bodyPost_ret (results_tmp Try.results26 _ _ _) rfl ⟨?_, E⟩
    show Ending.returned (.bool false) = _
    simp [lsN, e0]
  · skip
    replace e0 := Bool.eq_false_iff.2 e0
    by_cases e1 : isN y = true
    · skip
      refine vv (.bool false) 7 rfl rfl (ex_bin rfl rfl rfl (egF _ _ _ _ _ _) (lssF _ (no_lt (.inr e1)))) ?_; refine vm (.bool false) 8 rfl rfl rfl rfl ?_; refine vm (.float .f64 x) 9 rfl rfl rfl rfl ?_; refine st_call (some 10) rfl rfl (snum_any x w (c := true) (by simp [e0])) (ex_call (f := 67) (vs := [(.float .f64 x)]) rfl (cf67 _) rfl) ?_; rintro e W1 ⟨rfl, B⟩; refine ⟨_, rfl, ?_⟩; simp only [zp]; replace E := below_next E B; refine vm (.bool true) 11 rfl rfl rfl rfl ?_; refine vm (.float .f64 y) 12 rfl rfl rfl rfl ?_
      refine st_call (some 13) rfl rfl (snum_any y W1 (c := false) (by simp [e1])) (ex_call (f := 67) (vs := [(.float .f64 y)]) rfl (cf67 _) rfl) ?_; rintro e W2 ⟨rfl, B⟩; refine ⟨_, rfl, ?_⟩; simp only [zp]; replace E := below_next E B; refine vv (.bool true) 14 rfl rfl (ex_not rfl rfl rfl) ?_; refine vv (.bool true) 15 rfl rfl (ex_pkT rfl rfl rfl) ?_; refine vv (.bool true) 16 rfl rfl (ex_pkF rfl rfl rfl) ?_; refine vg (.bool true) 4 rfl rfl rfl rfl ?_; refine st_end ?_; subst hQ; refine wp_ret ?_
      repeat (first | refine ret_out ?_ | refine ret_blk ?_)
      refine bodyPost_ret (results_tmp Try.results26 _ _ _) rfl ⟨?_, E⟩
      show Ending.returned (.bool true) = _
      simp [lsN, e0, e1]
    · skip
      replace e1 := Bool.eq_false_iff.2 e1
      by_cases e2 : key x < key y
      · skip
        refine vv (.bool true) 7 rfl rfl (ex_bin rfl rfl rfl (egF _ _ _ _ _ _) (lssF _ (is_lt e0 e1 (decide_eq_true e2)))) ?_; refine vm (.bool true) 8 rfl rfl rfl rfl ?_; refine vn 9 rfl rfl ?_; refine vn 10 rfl rfl ?_; refine vn 11 rfl rfl ?_; refine vn 12 rfl rfl ?_; refine vn 13 rfl rfl ?_; refine vn 14 rfl rfl ?_; refine vn 15 rfl rfl ?_; refine vv (.bool true) 16 rfl rfl (ex_pkT rfl rfl rfl) ?_; refine vg (.bool true) 4 rfl rfl rfl rfl ?_; refine st_end ?_; subst hQ; refine wp_ret ?_
        repeat (first | refine ret_out ?_ | refine ret_blk ?_)
        refine bodyPost_ret (results_tmp Try.results26 _ _ _) rfl ⟨?_, E⟩
        show Ending.returned (.bool true) = _
        simp [lsN, e0, e1, e2]
      · skip
        refine vv (.bool false) 7 rfl rfl (ex_bin rfl rfl rfl (egF _ _ _ _ _ _) (lssF _ (is_lt e0 e1 (decide_eq_false e2)))) ?_; refine vm (.bool false) 8 rfl rfl rfl rfl ?_; refine vm (.float .f64 x) 9 rfl rfl rfl rfl ?_; refine st_call (some 10) rfl rfl (snum_any x w (c := true) (by simp [e0])) (ex_call (f := 67) (vs := [(.float .f64 x)]) rfl (cf67 _) rfl) ?_; rintro e W1 ⟨rfl, B⟩; refine ⟨_, rfl, ?_⟩; simp only [zp]; replace E := below_next E B; refine vm (.bool true) 11 rfl rfl rfl rfl ?_; refine vm (.float .f64 y) 12 rfl rfl rfl rfl ?_
        refine st_call (some 13) rfl rfl (snum_any y W1 (c := true) (by simp [e1])) (ex_call (f := 67) (vs := [(.float .f64 y)]) rfl (cf67 _) rfl) ?_; rintro e W2 ⟨rfl, B⟩; refine ⟨_, rfl, ?_⟩; simp only [zp]; replace E := below_next E B; refine vv (.bool false) 14 rfl rfl (ex_not rfl rfl rfl) ?_; refine vv (.bool false) 15 rfl rfl (ex_pkT rfl rfl rfl) ?_; refine vv (.bool false) 16 rfl rfl (ex_pkF rfl rfl rfl) ?_; refine vg (.bool false) 4 rfl rfl rfl rfl ?_; refine st_end ?_; subst hQ; refine wp_ret ?_
        repeat (first | refine ret_out ?_ | refine ret_blk ?_)
        refine bodyPost_ret (results_tmp Try.results26 _ _ _) rfl ⟨?_, E⟩
        show Ending.returned (.bool false) = _
        simp [lsN, e0, e1, e2]
set_option maxHeartbeats 8000000 in
theorem swentThrough_any {p : PV} (a t : Int) (w : World) (a1 : 1 ≤ a) (a2 : a ≤ 9223372036854775807) (h1 : 1 ≤ t) : Calls Try.prog 90 #[.agg (PL p), .int .i64 a, .int .i64 t] w fun e w' => e = .returned (.agg (PL (lrnN p a t true))) ∧ Below w.heap.size w w' := by
  show Calls Try.prog 90 #[.agg #[.int .i64 p.good, .int .i64 p.gat, .int .i64 p.bad, .int .i64 p.bat], .int .i64 a, .int .i64 t] w _
  have ea : ¬ a < 1 := by omega
  have et : ¬ t < 1 := by omega
  have E : Below w.heap.size w w := Below.refl _ _
  go_enter Try.func90, Try.ntmps90; refine wq fun Q hQ => ?_; refine st_new (fun b => .pointer (some ⟨b, 0, none⟩)) (some 3) rfl rfl (ex_box rfl rfl) ?_; intro b1 W1 k1 g1 B; simp only [zp]; have ge_b1 := Nat.le_trans E.size g1; replace E := below_next E B; clear B; refine st_new (fun b => .pointer (some ⟨b, 0, none⟩)) (some 6) rfl rfl (ex_alloc rfl zero47) ?_; intro b2 W2 k2 g2 B; simp only [zp]
  have ne_b2_b1 : b2 ≠ b1 := fun e => by have := lt_of k1; omega
  have ge_b2 := Nat.le_trans E.size g2; replace E := below_next E B; replace k1 := keep B k1; clear B; refine st_end ?_; subst hQ; refine wq fun Q hQ => ?_; refine vv (Pz b1 0) 7 rfl rfl (ex_fa (p := (Pz b1 0)) rfl rfl (fa47_0 _ _)) ?_; refine vv (.int .i64 p.good) 8 rfl rfl (ex_load (p := (Pz b1 0)) rfl rfl (ld3 (at_cell k1 rfl))) ?_; refine vm (.int .i64 a) 9 rfl rfl rfl rfl ?_
  by_cases e0 : p.good < a
  · skip
    refine vv (.int .i64 a) 10 rfl rfl (ex_max rfl rfl rfl (by omega)) ?_; refine vm (.int .i64 t) 11 rfl rfl rfl rfl ?_; refine vv (Pz b1 0) 12 rfl rfl (ex_fa (p := (Pz b1 0)) rfl rfl (fa47_0 _ _)) ?_; obtain ⟨kn, K⟩ := put_cell (i := 0) (.int .i64 a) k1; refine st_sk rfl rfl (ex_store rfl rfl rfl (sto3 (at_cell k1 rfl) (unfrozen k1))) ?_; obtain ⟨W3, hW2⟩ : ∃ W', W2.setCell ⟨b1, 0, none⟩ (.int .i64 a) = W' := ⟨_, rfl⟩; rw [hW2] at kn K ⊢; replace E := below_put E ge_b1 K; replace k2 := keepK K k2 (fun e => by first | exact ne_b2_b1 e | exact ne_b1_b2 e.symm); replace k1 := kn; clear kn K
    refine vv (Pz b1 1) 13 rfl rfl (ex_fa (p := (Pz b1 0)) rfl rfl (fa47_1 _ _)) ?_; obtain ⟨kn, K⟩ := put_cell (i := 1) (.int .i64 t) k1; refine st_sk rfl rfl (ex_store rfl rfl rfl (sto3 (at_cell k1 rfl) (unfrozen k1))) ?_; obtain ⟨W4, hW2⟩ : ∃ W', W3.setCell ⟨b1, 1, none⟩ (.int .i64 t) = W' := ⟨_, rfl⟩; rw [hW2] at kn K ⊢; replace E := below_put E ge_b1 K; replace k2 := keepK K k2 (fun e => by first | exact ne_b2_b1 e | exact ne_b1_b2 e.symm); replace k1 := kn; clear kn K; refine st_end ?_; subst hQ; refine wp_seq ?_; refine wq fun Q hQ => ?_
    refine vv (Pz b1 2) 14 rfl rfl (ex_fa (p := (Pz b1 0)) rfl rfl (fa47_2 _ _)) ?_; refine vv (.int .i64 p.bad) 15 rfl rfl (ex_load (p := (Pz b1 2)) rfl rfl (ld3 (at_cell k1 rfl))) ?_; refine vm (.int .i64 a) 16 rfl rfl rfl rfl ?_
    by_cases e1 : p.bad ≤ a
    · skip
      refine vv (.bool true) 17 rfl rfl (ex_bin (u := (.int .i64 p.bad)) (r := (.int .i64 a)) rfl rfl rfl (eg3 _ _ _ _ _ _) (leq3 _ (decide_eq_true (by omega)))) ?_; refine st_end ?_; subst hQ; refine wp_cond_true rfl ?_; refine wl_in (wl_cap fun Q hQ => ?_); refine vv (Pz b1 2) 18 rfl rfl (ex_fa (p := (Pz b1 0)) rfl rfl (fa47_2 _ _)) ?_; obtain ⟨kn, K⟩ := put_cell (i := 2) (.int .i64 0) k1; refine st_sk rfl rfl (ex_store rfl rfl rfl (sto3 (at_cell k1 rfl) (unfrozen k1))) ?_; obtain ⟨W5, hW2⟩ : ∃ W', W4.setCell ⟨b1, 2, none⟩ (.int .i64 0) = W' := ⟨_, rfl⟩; rw [hW2] at kn K ⊢
      replace E := below_put E ge_b1 K; replace k2 := keepK K k2 (fun e => by first | exact ne_b2_b1 e | exact ne_b1_b2 e.symm); replace k1 := kn; clear kn K; refine vv (Pz b1 3) 19 rfl rfl (ex_fa (p := (Pz b1 0)) rfl rfl (fa47_3 _ _)) ?_; obtain ⟨kn, K⟩ := put_cell (i := 3) (.int .i64 0) k1; refine st_sk rfl rfl (ex_store rfl rfl rfl (sto3 (at_cell k1 rfl) (unfrozen k1))) ?_; obtain ⟨W6, hW2⟩ : ∃ W', W5.setCell ⟨b1, 3, none⟩ (.int .i64 0) = W' := ⟨_, rfl⟩; rw [hW2] at kn K ⊢; replace E := below_put E ge_b1 K
      replace k2 := keepK K k2 (fun e => by first | exact ne_b2_b1 e | exact ne_b1_b2 e.symm); replace k1 := kn; clear kn K; refine st_end ?_; subst hQ; refine wq fun Q hQ => ?_; refine vv (.agg #[(.int .i64 a), (.int .i64 t), (.int .i64 0), (.int .i64 0)]) 20 rfl rfl (ex_load (p := (Pz b1 0)) rfl rfl (ld_all k1 Try.underlying47 rfl inf47)) ?_; obtain ⟨W7, hst, kn, K⟩ := put_all (D := #[(.int .i64 a), (.int .i64 t), (.int .i64 0), (.int .i64 0)]) k2 rfl inf47 (by kernel_rfl); refine st_sk rfl rfl (ex_store rfl rfl rfl hst) ?_; replace E := below_put E ge_b2 K
      replace k1 := keepK K k1 (fun e => by first | exact ne_b1_b2 e | exact ne_b2_b1 e.symm); replace k2 := kn; clear kn K hst; refine st_end ?_; subst hQ; refine wp_ret ?_
      repeat (first | refine ret_out ?_ | refine ret_blk ?_)
      refine bodyPost_ret (results_cell_row Try.results90 _ _ b2 _ _ _ _ rfl k2 Try.underlying47 rfl inf47) rfl ⟨?_, E⟩
      show Ending.returned (.agg #[(.int .i64 a), (.int .i64 t), (.int .i64 0), (.int .i64 0)]) = _
      simp [lrnN, PL, ea, et, e0, e1]
    · skip
      refine vv (.bool false) 17 rfl rfl (ex_bin (u := (.int .i64 p.bad)) (r := (.int .i64 a)) rfl rfl rfl (eg3 _ _ _ _ _ _) (leq3 _ (decide_eq_false (by omega)))) ?_; refine st_end ?_; subst hQ; refine wp_cond_false rfl ?_; refine wp_skip ?_; refine wq fun Q hQ => ?_; refine vv (.agg #[(.int .i64 a), (.int .i64 t), (.int .i64 p.bad), (.int .i64 p.bat)]) 20 rfl rfl (ex_load (p := (Pz b1 0)) rfl rfl (ld_all k1 Try.underlying47 rfl inf47)) ?_; obtain ⟨W5, hst, kn, K⟩ := put_all (D := #[(.int .i64 a), (.int .i64 t), (.int .i64 p.bad), (.int .i64 p.bat)]) k2 rfl inf47 (by kernel_rfl)
      refine st_sk rfl rfl (ex_store rfl rfl rfl hst) ?_; replace E := below_put E ge_b2 K; replace k1 := keepK K k1 (fun e => by first | exact ne_b1_b2 e | exact ne_b2_b1 e.symm); replace k2 := kn; clear kn K hst; refine st_end ?_; subst hQ; refine wp_ret ?_
      repeat (first | refine ret_out ?_ | refine ret_blk ?_)
      refine bodyPost_ret (results_cell_row Try.results90 _ _ b2 _ _ _ _ rfl k2 Try.underlying47 rfl inf47) rfl ⟨?_, E⟩
      show Ending.returned (.agg #[(.int .i64 a), (.int .i64 t), (.int .i64 p.bad), (.int .i64 p.bat)]) = _
      simp [lrnN, PL, ea, et, e0, e1]
  · skip
    refine vv (.int .i64 p.good) 10 rfl rfl (ex_max rfl rfl rfl (by omega)) ?_; refine vm (.int .i64 t) 11 rfl rfl rfl rfl ?_; refine vv (Pz b1 0) 12 rfl rfl (ex_fa (p := (Pz b1 0)) rfl rfl (fa47_0 _ _)) ?_; obtain ⟨kn, K⟩ := put_cell (i := 0) (.int .i64 p.good) k1; refine st_sk rfl rfl (ex_store rfl rfl rfl (sto3 (at_cell k1 rfl) (unfrozen k1))) ?_; obtain ⟨W3, hW2⟩ : ∃ W', W2.setCell ⟨b1, 0, none⟩ (.int .i64 p.good) = W' := ⟨_, rfl⟩; rw [hW2] at kn K ⊢; replace E := below_put E ge_b1 K; replace k2 := keepK K k2 (fun e => by first | exact ne_b2_b1 e | exact ne_b1_b2 e.symm)
    replace k1 := kn; clear kn K; refine vv (Pz b1 1) 13 rfl rfl (ex_fa (p := (Pz b1 0)) rfl rfl (fa47_1 _ _)) ?_; obtain ⟨kn, K⟩ := put_cell (i := 1) (.int .i64 t) k1; refine st_sk rfl rfl (ex_store rfl rfl rfl (sto3 (at_cell k1 rfl) (unfrozen k1))) ?_; obtain ⟨W4, hW2⟩ : ∃ W', W3.setCell ⟨b1, 1, none⟩ (.int .i64 t) = W' := ⟨_, rfl⟩; rw [hW2] at kn K ⊢; replace E := below_put E ge_b1 K; replace k2 := keepK K k2 (fun e => by first | exact ne_b2_b1 e | exact ne_b1_b2 e.symm); replace k1 := kn; clear kn K; refine st_end ?_; subst hQ; refine wp_seq ?_; refine wq fun Q hQ => ?_
    refine vv (Pz b1 2) 14 rfl rfl (ex_fa (p := (Pz b1 0)) rfl rfl (fa47_2 _ _)) ?_; refine vv (.int .i64 p.bad) 15 rfl rfl (ex_load (p := (Pz b1 2)) rfl rfl (ld3 (at_cell k1 rfl))) ?_; refine vm (.int .i64 a) 16 rfl rfl rfl rfl ?_
    by_cases e1 : p.bad ≤ a
    · skip
      refine vv (.bool true) 17 rfl rfl (ex_bin (u := (.int .i64 p.bad)) (r := (.int .i64 a)) rfl rfl rfl (eg3 _ _ _ _ _ _) (leq3 _ (decide_eq_true (by omega)))) ?_; refine st_end ?_; subst hQ; refine wp_cond_true rfl ?_; refine wl_in (wl_cap fun Q hQ => ?_); refine vv (Pz b1 2) 18 rfl rfl (ex_fa (p := (Pz b1 0)) rfl rfl (fa47_2 _ _)) ?_; obtain ⟨kn, K⟩ := put_cell (i := 2) (.int .i64 0) k1; refine st_sk rfl rfl (ex_store rfl rfl rfl (sto3 (at_cell k1 rfl) (unfrozen k1))) ?_; obtain ⟨W5, hW2⟩ : ∃ W', W4.setCell ⟨b1, 2, none⟩ (.int .i64 0) = W' := ⟨_, rfl⟩; rw [hW2] at kn K ⊢
      replace E := below_put E ge_b1 K; replace k2 := keepK K k2 (fun e => by first | exact ne_b2_b1 e | exact ne_b1_b2 e.symm); replace k1 := kn; clear kn K; refine vv (Pz b1 3) 19 rfl rfl (ex_fa (p := (Pz b1 0)) rfl rfl (fa47_3 _ _)) ?_; obtain ⟨kn, K⟩ := put_cell (i := 3) (.int .i64 0) k1; refine st_sk rfl rfl (ex_store rfl rfl rfl (sto3 (at_cell k1 rfl) (unfrozen k1))) ?_; obtain ⟨W6, hW2⟩ : ∃ W', W5.setCell ⟨b1, 3, none⟩ (.int .i64 0) = W' := ⟨_, rfl⟩; rw [hW2] at kn K ⊢; replace E := below_put E ge_b1 K
      replace k2 := keepK K k2 (fun e => by first | exact ne_b2_b1 e | exact ne_b1_b2 e.symm); replace k1 := kn; clear kn K; refine st_end ?_; subst hQ; refine wq fun Q hQ => ?_; refine vv (.agg #[(.int .i64 p.good), (.int .i64 t), (.int .i64 0), (.int .i64 0)]) 20 rfl rfl (ex_load (p := (Pz b1 0)) rfl rfl (ld_all k1 Try.underlying47 rfl inf47)) ?_; obtain ⟨W7, hst, kn, K⟩ := put_all (D := #[(.int .i64 p.good), (.int .i64 t), (.int .i64 0), (.int .i64 0)]) k2 rfl inf47 (by kernel_rfl); refine st_sk rfl rfl (ex_store rfl rfl rfl hst) ?_; replace E := below_put E ge_b2 K
      replace k1 := keepK K k1 (fun e => by first | exact ne_b1_b2 e | exact ne_b2_b1 e.symm); replace k2 := kn; clear kn K hst; refine st_end ?_; subst hQ; refine wp_ret ?_
      repeat (first | refine ret_out ?_ | refine ret_blk ?_)
      refine bodyPost_ret (results_cell_row Try.results90 _ _ b2 _ _ _ _ rfl k2 Try.underlying47 rfl inf47) rfl ⟨?_, E⟩
      show Ending.returned (.agg #[(.int .i64 p.good), (.int .i64 t), (.int .i64 0), (.int .i64 0)]) = _
      simp [lrnN, PL, ea, et, e0, e1]
    · skip
      refine vv (.bool false) 17 rfl rfl (ex_bin (u := (.int .i64 p.bad)) (r := (.int .i64 a)) rfl rfl rfl (eg3 _ _ _ _ _ _) (leq3 _ (decide_eq_false (by omega)))) ?_; refine st_end ?_; subst hQ; refine wp_cond_false rfl ?_; refine wp_skip ?_; refine wq fun Q hQ => ?_; refine vv (.agg #[(.int .i64 p.good), (.int .i64 t), (.int .i64 p.bad), (.int .i64 p.bat)]) 20 rfl rfl (ex_load (p := (Pz b1 0)) rfl rfl (ld_all k1 Try.underlying47 rfl inf47)) ?_
      obtain ⟨W5, hst, kn, K⟩ := put_all (D := #[(.int .i64 p.good), (.int .i64 t), (.int .i64 p.bad), (.int .i64 p.bat)]) k2 rfl inf47 (by kernel_rfl); refine st_sk rfl rfl (ex_store rfl rfl rfl hst) ?_; replace E := below_put E ge_b2 K; replace k1 := keepK K k1 (fun e => by first | exact ne_b1_b2 e | exact ne_b2_b1 e.symm); replace k2 := kn; clear kn K hst; refine st_end ?_; subst hQ; refine wp_ret ?_
      repeat (first | refine ret_out ?_ | refine ret_blk ?_)
      refine bodyPost_ret (results_cell_row Try.results90 _ _ b2 _ _ _ _ rfl k2 Try.underlying47 rfl inf47) rfl ⟨?_, E⟩
      show Ending.returned (.agg #[(.int .i64 p.good), (.int .i64 t), (.int .i64 p.bad), (.int .i64 p.bat)]) = _
      simp [lrnN, PL, ea, et, e0, e1]
set_option maxHeartbeats 8000000 in
theorem sfailed_any {p : PV} (a t : Int) (w : World) (a1 : 1 ≤ a) (a2 : a ≤ 9223372036854775807) (h1 : 1 ≤ t) : Calls Try.prog 91 #[.agg (PL p), .int .i64 a, .int .i64 t] w fun e w' => e = .returned (.agg (PL (lrnN p a t false))) ∧ Below w.heap.size w w' := by
  show Calls Try.prog 91 #[.agg #[.int .i64 p.good, .int .i64 p.gat, .int .i64 p.bad, .int .i64 p.bat], .int .i64 a, .int .i64 t] w _
  have ea : ¬ a < 1 := by omega
  have et : ¬ t < 1 := by omega
  have E : Below w.heap.size w w := Below.refl _ _
  go_enter Try.func91, Try.ntmps91; refine wq fun Q hQ => ?_; refine st_new (fun b => .pointer (some ⟨b, 0, none⟩)) (some 3) rfl rfl (ex_box rfl rfl) ?_; intro b1 W1 k1 g1 B; simp only [zp]; have ge_b1 := Nat.le_trans E.size g1; replace E := below_next E B; clear B; refine st_new (fun b => .pointer (some ⟨b, 0, none⟩)) (some 6) rfl rfl (ex_alloc rfl zero47) ?_; intro b2 W2 k2 g2 B; simp only [zp]
  have ne_b2_b1 : b2 ≠ b1 := fun e => by have := lt_of k1; omega
  have ge_b2 := Nat.le_trans E.size g2; replace E := below_next E B; replace k1 := keep B k1; clear B; refine st_end ?_; subst hQ; refine wp_seq ?_; refine wq fun Q hQ => ?_; refine vv (Pz b1 3) 7 rfl rfl (ex_fa (p := (Pz b1 0)) rfl rfl (fa47_3 _ _)) ?_; refine vv (.int .i64 p.bat) 8 rfl rfl (ex_load (p := (Pz b1 3)) rfl rfl (ld3 (at_cell k1 rfl))) ?_
  by_cases e0 : p.bat = 0
  · skip
    refine vv (.bool true) 9 rfl rfl (ex_bin (u := (.int .i64 p.bat)) (r := (.int .i64 0)) rfl rfl rfl (eg3 _ _ _ _ _ _) (eql3 _ (decide_eq_true (by omega)))) ?_; refine vm (.bool true) 10 rfl rfl rfl rfl ?_; refine vn 11 rfl rfl ?_; refine vn 12 rfl rfl ?_; refine vn 13 rfl rfl ?_; refine vn 14 rfl rfl ?_; refine vv (.bool true) 15 rfl rfl (ex_pkT rfl rfl rfl) ?_; refine st_end ?_; subst hQ; refine wp_cond_true rfl ?_; refine wl_in (wl_cap fun Q hQ => ?_); refine vm (.int .i64 a) 16 rfl rfl rfl rfl ?_; refine vv (Pz b1 2) 17 rfl rfl (ex_fa (p := (Pz b1 0)) rfl rfl (fa47_2 _ _)) ?_
    obtain ⟨kn, K⟩ := put_cell (i := 2) (.int .i64 a) k1; refine st_sk rfl rfl (ex_store rfl rfl rfl (sto3 (at_cell k1 rfl) (unfrozen k1))) ?_; obtain ⟨W3, hW2⟩ : ∃ W', W2.setCell ⟨b1, 2, none⟩ (.int .i64 a) = W' := ⟨_, rfl⟩; rw [hW2] at kn K ⊢; replace E := below_put E ge_b1 K; replace k2 := keepK K k2 (fun e => by first | exact ne_b2_b1 e | exact ne_b1_b2 e.symm); replace k1 := kn; clear kn K; refine st_end ?_; subst hQ; refine wq fun Q hQ => ?_; refine vm (.int .i64 t) 18 rfl rfl rfl rfl ?_; refine vv (Pz b1 3) 19 rfl rfl (ex_fa (p := (Pz b1 0)) rfl rfl (fa47_3 _ _)) ?_
    obtain ⟨kn, K⟩ := put_cell (i := 3) (.int .i64 t) k1; refine st_sk rfl rfl (ex_store rfl rfl rfl (sto3 (at_cell k1 rfl) (unfrozen k1))) ?_; obtain ⟨W4, hW2⟩ : ∃ W', W3.setCell ⟨b1, 3, none⟩ (.int .i64 t) = W' := ⟨_, rfl⟩; rw [hW2] at kn K ⊢; replace E := below_put E ge_b1 K; replace k2 := keepK K k2 (fun e => by first | exact ne_b2_b1 e | exact ne_b1_b2 e.symm); replace k1 := kn; clear kn K; refine st_end ?_; subst hQ; refine wq fun Q hQ => ?_; refine vv (Pz b1 0) 20 rfl rfl (ex_fa (p := (Pz b1 0)) rfl rfl (fa47_0 _ _)) ?_
    refine vv (.int .i64 p.good) 21 rfl rfl (ex_load (p := (Pz b1 0)) rfl rfl (ld3 (at_cell k1 rfl))) ?_; refine vm (.int .i64 a) 22 rfl rfl rfl rfl ?_; refine vv (.int .i64 (a - 1)) 23 rfl rfl (ex_bin rfl rfl rfl (eg3 _ _ _ _ _ _) (sub3 _ rfl (by omega))) ?_
    by_cases e1 : a < p.bad
    · skip
      by_cases e2 : a ≤ p.good
      · skip
        refine vv (.int .i64 (a - 1)) 24 rfl rfl (ex_min rfl rfl rfl (by omega)) ?_; refine vv (Pz b1 0) 25 rfl rfl (ex_fa (p := (Pz b1 0)) rfl rfl (fa47_0 _ _)) ?_; obtain ⟨kn, K⟩ := put_cell (i := 0) (.int .i64 (a - 1)) k1; refine st_sk rfl rfl (ex_store rfl rfl rfl (sto3 (at_cell k1 rfl) (unfrozen k1))) ?_; obtain ⟨W5, hW2⟩ : ∃ W', W4.setCell ⟨b1, 0, none⟩ (.int .i64 (a - 1)) = W' := ⟨_, rfl⟩; rw [hW2] at kn K ⊢; replace E := below_put E ge_b1 K; replace k2 := keepK K k2 (fun e => by first | exact ne_b2_b1 e | exact ne_b1_b2 e.symm); replace k1 := kn; clear kn K
        refine st_end ?_; subst hQ; refine wq fun Q hQ => ?_; refine vv (.agg #[(.int .i64 (a - 1)), (.int .i64 p.gat), (.int .i64 a), (.int .i64 t)]) 26 rfl rfl (ex_load (p := (Pz b1 0)) rfl rfl (ld_all k1 Try.underlying47 rfl inf47)) ?_; obtain ⟨W6, hst, kn, K⟩ := put_all (D := #[(.int .i64 (a - 1)), (.int .i64 p.gat), (.int .i64 a), (.int .i64 t)]) k2 rfl inf47 (by kernel_rfl); refine st_sk rfl rfl (ex_store rfl rfl rfl hst) ?_; replace E := below_put E ge_b2 K; replace k1 := keepK K k1 (fun e => by first | exact ne_b1_b2 e | exact ne_b2_b1 e.symm); replace k2 := kn; clear kn K hst
        refine st_end ?_; subst hQ; refine wp_ret ?_
        repeat (first | refine ret_out ?_ | refine ret_blk ?_)
        refine bodyPost_ret (results_cell_row Try.results91 _ _ b2 _ _ _ _ rfl k2 Try.underlying47 rfl inf47) rfl ⟨?_, E⟩
        show Ending.returned (.agg #[(.int .i64 (a - 1)), (.int .i64 p.gat), (.int .i64 a), (.int .i64 t)]) = _
        simp [lrnN, PL, ea, et, e0, e1, e2]
      · skip
        refine vv (.int .i64 p.good) 24 rfl rfl (ex_min rfl rfl rfl (by omega)) ?_; refine vv (Pz b1 0) 25 rfl rfl (ex_fa (p := (Pz b1 0)) rfl rfl (fa47_0 _ _)) ?_; obtain ⟨kn, K⟩ := put_cell (i := 0) (.int .i64 p.good) k1; refine st_sk rfl rfl (ex_store rfl rfl rfl (sto3 (at_cell k1 rfl) (unfrozen k1))) ?_; obtain ⟨W5, hW2⟩ : ∃ W', W4.setCell ⟨b1, 0, none⟩ (.int .i64 p.good) = W' := ⟨_, rfl⟩; rw [hW2] at kn K ⊢; replace E := below_put E ge_b1 K; replace k2 := keepK K k2 (fun e => by first | exact ne_b2_b1 e | exact ne_b1_b2 e.symm); replace k1 := kn; clear kn K
        refine st_end ?_; subst hQ; refine wq fun Q hQ => ?_; refine vv (.agg #[(.int .i64 p.good), (.int .i64 p.gat), (.int .i64 a), (.int .i64 t)]) 26 rfl rfl (ex_load (p := (Pz b1 0)) rfl rfl (ld_all k1 Try.underlying47 rfl inf47)) ?_; obtain ⟨W6, hst, kn, K⟩ := put_all (D := #[(.int .i64 p.good), (.int .i64 p.gat), (.int .i64 a), (.int .i64 t)]) k2 rfl inf47 (by kernel_rfl); refine st_sk rfl rfl (ex_store rfl rfl rfl hst) ?_; replace E := below_put E ge_b2 K; replace k1 := keepK K k1 (fun e => by first | exact ne_b1_b2 e | exact ne_b2_b1 e.symm); replace k2 := kn; clear kn K hst
        refine st_end ?_; subst hQ; refine wp_ret ?_
        repeat (first | refine ret_out ?_ | refine ret_blk ?_)
        refine bodyPost_ret (results_cell_row Try.results91 _ _ b2 _ _ _ _ rfl k2 Try.underlying47 rfl inf47) rfl ⟨?_, E⟩
        show Ending.returned (.agg #[(.int .i64 p.good), (.int .i64 p.gat), (.int .i64 a), (.int .i64 t)]) = _
        simp [lrnN, PL, ea, et, e0, e1, e2]
    · skip
      by_cases e2 : a ≤ p.good
      · skip
        refine vv (.int .i64 (a - 1)) 24 rfl rfl (ex_min rfl rfl rfl (by omega)) ?_; refine vv (Pz b1 0) 25 rfl rfl (ex_fa (p := (Pz b1 0)) rfl rfl (fa47_0 _ _)) ?_; obtain ⟨kn, K⟩ := put_cell (i := 0) (.int .i64 (a - 1)) k1; refine st_sk rfl rfl (ex_store rfl rfl rfl (sto3 (at_cell k1 rfl) (unfrozen k1))) ?_; obtain ⟨W5, hW2⟩ : ∃ W', W4.setCell ⟨b1, 0, none⟩ (.int .i64 (a - 1)) = W' := ⟨_, rfl⟩; rw [hW2] at kn K ⊢; replace E := below_put E ge_b1 K; replace k2 := keepK K k2 (fun e => by first | exact ne_b2_b1 e | exact ne_b1_b2 e.symm); replace k1 := kn; clear kn K
        refine st_end ?_; subst hQ; refine wq fun Q hQ => ?_; refine vv (.agg #[(.int .i64 (a - 1)), (.int .i64 p.gat), (.int .i64 a), (.int .i64 t)]) 26 rfl rfl (ex_load (p := (Pz b1 0)) rfl rfl (ld_all k1 Try.underlying47 rfl inf47)) ?_; obtain ⟨W6, hst, kn, K⟩ := put_all (D := #[(.int .i64 (a - 1)), (.int .i64 p.gat), (.int .i64 a), (.int .i64 t)]) k2 rfl inf47 (by kernel_rfl); refine st_sk rfl rfl (ex_store rfl rfl rfl hst) ?_; replace E := below_put E ge_b2 K; replace k1 := keepK K k1 (fun e => by first | exact ne_b1_b2 e | exact ne_b2_b1 e.symm); replace k2 := kn; clear kn K hst
        refine st_end ?_; subst hQ; refine wp_ret ?_
        repeat (first | refine ret_out ?_ | refine ret_blk ?_)
        refine bodyPost_ret (results_cell_row Try.results91 _ _ b2 _ _ _ _ rfl k2 Try.underlying47 rfl inf47) rfl ⟨?_, E⟩
        show Ending.returned (.agg #[(.int .i64 (a - 1)), (.int .i64 p.gat), (.int .i64 a), (.int .i64 t)]) = _
        simp [lrnN, PL, ea, et, e0, e1, e2]
      · skip
        refine vv (.int .i64 p.good) 24 rfl rfl (ex_min rfl rfl rfl (by omega)) ?_; refine vv (Pz b1 0) 25 rfl rfl (ex_fa (p := (Pz b1 0)) rfl rfl (fa47_0 _ _)) ?_; obtain ⟨kn, K⟩ := put_cell (i := 0) (.int .i64 p.good) k1; refine st_sk rfl rfl (ex_store rfl rfl rfl (sto3 (at_cell k1 rfl) (unfrozen k1))) ?_; obtain ⟨W5, hW2⟩ : ∃ W', W4.setCell ⟨b1, 0, none⟩ (.int .i64 p.good) = W' := ⟨_, rfl⟩; rw [hW2] at kn K ⊢; replace E := below_put E ge_b1 K; replace k2 := keepK K k2 (fun e => by first | exact ne_b2_b1 e | exact ne_b1_b2 e.symm); replace k1 := kn; clear kn K
        refine st_end ?_; subst hQ; refine wq fun Q hQ => ?_; refine vv (.agg #[(.int .i64 p.good), (.int .i64 p.gat), (.int .i64 a), (.int .i64 t)]) 26 rfl rfl (ex_load (p := (Pz b1 0)) rfl rfl (ld_all k1 Try.underlying47 rfl inf47)) ?_; obtain ⟨W6, hst, kn, K⟩ := put_all (D := #[(.int .i64 p.good), (.int .i64 p.gat), (.int .i64 a), (.int .i64 t)]) k2 rfl inf47 (by kernel_rfl); refine st_sk rfl rfl (ex_store rfl rfl rfl hst) ?_; replace E := below_put E ge_b2 K; replace k1 := keepK K k1 (fun e => by first | exact ne_b1_b2 e | exact ne_b2_b1 e.symm); replace k2 := kn; clear kn K hst
        refine st_end ?_; subst hQ; refine wp_ret ?_
        repeat (first | refine ret_out ?_ | refine ret_blk ?_)
        refine bodyPost_ret (results_cell_row Try.results91 _ _ b2 _ _ _ _ rfl k2 Try.underlying47 rfl inf47) rfl ⟨?_, E⟩
        show Ending.returned (.agg #[(.int .i64 p.good), (.int .i64 p.gat), (.int .i64 a), (.int .i64 t)]) = _
        simp [lrnN, PL, ea, et, e0, e1, e2]
  · skip
    refine vv (.bool false) 9 rfl rfl (ex_bin (u := (.int .i64 p.bat)) (r := (.int .i64 0)) rfl rfl rfl (eg3 _ _ _ _ _ _) (eql3 _ (decide_eq_false (by omega)))) ?_; refine vm (.bool false) 10 rfl rfl rfl rfl ?_; refine vm (.int .i64 a) 11 rfl rfl rfl rfl ?_; refine vv (Pz b1 2) 12 rfl rfl (ex_fa (p := (Pz b1 0)) rfl rfl (fa47_2 _ _)) ?_; refine vv (.int .i64 p.bad) 13 rfl rfl (ex_load (p := (Pz b1 2)) rfl rfl (ld3 (at_cell k1 rfl))) ?_
    by_cases e1 : a < p.bad
    · skip
      refine vv (.bool true) 14 rfl rfl (ex_bin (u := (.int .i64 a)) (r := (.int .i64 p.bad)) rfl rfl rfl (eg3 _ _ _ _ _ _) (lss3 _ (decide_eq_true (by omega)))) ?_; refine vv (.bool true) 15 rfl rfl (ex_pkF rfl rfl rfl) ?_; refine st_end ?_; subst hQ; refine wp_cond_true rfl ?_; refine wl_in (wl_cap fun Q hQ => ?_); refine vm (.int .i64 a) 16 rfl rfl rfl rfl ?_; refine vv (Pz b1 2) 17 rfl rfl (ex_fa (p := (Pz b1 0)) rfl rfl (fa47_2 _ _)) ?_; obtain ⟨kn, K⟩ := put_cell (i := 2) (.int .i64 a) k1; refine st_sk rfl rfl (ex_store rfl rfl rfl (sto3 (at_cell k1 rfl) (unfrozen k1))) ?_
      obtain ⟨W3, hW2⟩ : ∃ W', W2.setCell ⟨b1, 2, none⟩ (.int .i64 a) = W' := ⟨_, rfl⟩; rw [hW2] at kn K ⊢; replace E := below_put E ge_b1 K; replace k2 := keepK K k2 (fun e => by first | exact ne_b2_b1 e | exact ne_b1_b2 e.symm); replace k1 := kn; clear kn K; refine st_end ?_; subst hQ; refine wq fun Q hQ => ?_; refine vm (.int .i64 t) 18 rfl rfl rfl rfl ?_; refine vv (Pz b1 3) 19 rfl rfl (ex_fa (p := (Pz b1 0)) rfl rfl (fa47_3 _ _)) ?_; obtain ⟨kn, K⟩ := put_cell (i := 3) (.int .i64 t) k1; refine st_sk rfl rfl (ex_store rfl rfl rfl (sto3 (at_cell k1 rfl) (unfrozen k1))) ?_
      obtain ⟨W4, hW2⟩ : ∃ W', W3.setCell ⟨b1, 3, none⟩ (.int .i64 t) = W' := ⟨_, rfl⟩; rw [hW2] at kn K ⊢; replace E := below_put E ge_b1 K; replace k2 := keepK K k2 (fun e => by first | exact ne_b2_b1 e | exact ne_b1_b2 e.symm); replace k1 := kn; clear kn K; refine st_end ?_; subst hQ; refine wq fun Q hQ => ?_; refine vv (Pz b1 0) 20 rfl rfl (ex_fa (p := (Pz b1 0)) rfl rfl (fa47_0 _ _)) ?_; refine vv (.int .i64 p.good) 21 rfl rfl (ex_load (p := (Pz b1 0)) rfl rfl (ld3 (at_cell k1 rfl))) ?_; refine vm (.int .i64 a) 22 rfl rfl rfl rfl ?_
      refine vv (.int .i64 (a - 1)) 23 rfl rfl (ex_bin rfl rfl rfl (eg3 _ _ _ _ _ _) (sub3 _ rfl (by omega))) ?_
      by_cases e2 : a ≤ p.good
      · skip
        refine vv (.int .i64 (a - 1)) 24 rfl rfl (ex_min rfl rfl rfl (by omega)) ?_; refine vv (Pz b1 0) 25 rfl rfl (ex_fa (p := (Pz b1 0)) rfl rfl (fa47_0 _ _)) ?_; obtain ⟨kn, K⟩ := put_cell (i := 0) (.int .i64 (a - 1)) k1; refine st_sk rfl rfl (ex_store rfl rfl rfl (sto3 (at_cell k1 rfl) (unfrozen k1))) ?_; obtain ⟨W5, hW2⟩ : ∃ W', W4.setCell ⟨b1, 0, none⟩ (.int .i64 (a - 1)) = W' := ⟨_, rfl⟩; rw [hW2] at kn K ⊢; replace E := below_put E ge_b1 K; replace k2 := keepK K k2 (fun e => by first | exact ne_b2_b1 e | exact ne_b1_b2 e.symm); replace k1 := kn; clear kn K
        refine st_end ?_; subst hQ; refine wq fun Q hQ => ?_; refine vv (.agg #[(.int .i64 (a - 1)), (.int .i64 p.gat), (.int .i64 a), (.int .i64 t)]) 26 rfl rfl (ex_load (p := (Pz b1 0)) rfl rfl (ld_all k1 Try.underlying47 rfl inf47)) ?_; obtain ⟨W6, hst, kn, K⟩ := put_all (D := #[(.int .i64 (a - 1)), (.int .i64 p.gat), (.int .i64 a), (.int .i64 t)]) k2 rfl inf47 (by kernel_rfl); refine st_sk rfl rfl (ex_store rfl rfl rfl hst) ?_; replace E := below_put E ge_b2 K; replace k1 := keepK K k1 (fun e => by first | exact ne_b1_b2 e | exact ne_b2_b1 e.symm); replace k2 := kn; clear kn K hst
        refine st_end ?_; subst hQ; refine wp_ret ?_
        repeat (first | refine ret_out ?_ | refine ret_blk ?_)
        refine bodyPost_ret (results_cell_row Try.results91 _ _ b2 _ _ _ _ rfl k2 Try.underlying47 rfl inf47) rfl ⟨?_, E⟩
        show Ending.returned (.agg #[(.int .i64 (a - 1)), (.int .i64 p.gat), (.int .i64 a), (.int .i64 t)]) = _
        simp [lrnN, PL, ea, et, e0, e1, e2]
      · skip
        refine vv (.int .i64 p.good) 24 rfl rfl (ex_min rfl rfl rfl (by omega)) ?_; refine vv (Pz b1 0) 25 rfl rfl (ex_fa (p := (Pz b1 0)) rfl rfl (fa47_0 _ _)) ?_; obtain ⟨kn, K⟩ := put_cell (i := 0) (.int .i64 p.good) k1; refine st_sk rfl rfl (ex_store rfl rfl rfl (sto3 (at_cell k1 rfl) (unfrozen k1))) ?_; obtain ⟨W5, hW2⟩ : ∃ W', W4.setCell ⟨b1, 0, none⟩ (.int .i64 p.good) = W' := ⟨_, rfl⟩; rw [hW2] at kn K ⊢; replace E := below_put E ge_b1 K; replace k2 := keepK K k2 (fun e => by first | exact ne_b2_b1 e | exact ne_b1_b2 e.symm); replace k1 := kn; clear kn K
        refine st_end ?_; subst hQ; refine wq fun Q hQ => ?_; refine vv (.agg #[(.int .i64 p.good), (.int .i64 p.gat), (.int .i64 a), (.int .i64 t)]) 26 rfl rfl (ex_load (p := (Pz b1 0)) rfl rfl (ld_all k1 Try.underlying47 rfl inf47)) ?_; obtain ⟨W6, hst, kn, K⟩ := put_all (D := #[(.int .i64 p.good), (.int .i64 p.gat), (.int .i64 a), (.int .i64 t)]) k2 rfl inf47 (by kernel_rfl); refine st_sk rfl rfl (ex_store rfl rfl rfl hst) ?_; replace E := below_put E ge_b2 K; replace k1 := keepK K k1 (fun e => by first | exact ne_b1_b2 e | exact ne_b2_b1 e.symm); replace k2 := kn; clear kn K hst
        refine st_end ?_; subst hQ; refine wp_ret ?_
        repeat (first | refine ret_out ?_ | refine ret_blk ?_)
        refine bodyPost_ret (results_cell_row Try.results91 _ _ b2 _ _ _ _ rfl k2 Try.underlying47 rfl inf47) rfl ⟨?_, E⟩
        show Ending.returned (.agg #[(.int .i64 p.good), (.int .i64 p.gat), (.int .i64 a), (.int .i64 t)]) = _
        simp [lrnN, PL, ea, et, e0, e1, e2]
    · skip
      refine vv (.bool false) 14 rfl rfl (ex_bin (u := (.int .i64 a)) (r := (.int .i64 p.bad)) rfl rfl rfl (eg3 _ _ _ _ _ _) (lss3 _ (decide_eq_false (by omega)))) ?_; refine vv (.bool false) 15 rfl rfl (ex_pkF rfl rfl rfl) ?_; refine st_end ?_; subst hQ; refine wp_cond_false rfl ?_; refine wp_skip ?_; refine wq fun Q hQ => ?_; refine vm (.int .i64 t) 18 rfl rfl rfl rfl ?_; refine vv (Pz b1 3) 19 rfl rfl (ex_fa (p := (Pz b1 0)) rfl rfl (fa47_3 _ _)) ?_; obtain ⟨kn, K⟩ := put_cell (i := 3) (.int .i64 t) k1
      refine st_sk rfl rfl (ex_store rfl rfl rfl (sto3 (at_cell k1 rfl) (unfrozen k1))) ?_; obtain ⟨W3, hW2⟩ : ∃ W', W2.setCell ⟨b1, 3, none⟩ (.int .i64 t) = W' := ⟨_, rfl⟩; rw [hW2] at kn K ⊢; replace E := below_put E ge_b1 K; replace k2 := keepK K k2 (fun e => by first | exact ne_b2_b1 e | exact ne_b1_b2 e.symm); replace k1 := kn; clear kn K; refine st_end ?_; subst hQ; refine wq fun Q hQ => ?_; refine vv (Pz b1 0) 20 rfl rfl (ex_fa (p := (Pz b1 0)) rfl rfl (fa47_0 _ _)) ?_; refine vv (.int .i64 p.good) 21 rfl rfl (ex_load (p := (Pz b1 0)) rfl rfl (ld3 (at_cell k1 rfl))) ?_
      refine vm (.int .i64 a) 22 rfl rfl rfl rfl ?_; refine vv (.int .i64 (a - 1)) 23 rfl rfl (ex_bin rfl rfl rfl (eg3 _ _ _ _ _ _) (sub3 _ rfl (by omega))) ?_
      by_cases e2 : a ≤ p.good
      · skip
        refine vv (.int .i64 (a - 1)) 24 rfl rfl (ex_min rfl rfl rfl (by omega)) ?_; refine vv (Pz b1 0) 25 rfl rfl (ex_fa (p := (Pz b1 0)) rfl rfl (fa47_0 _ _)) ?_; obtain ⟨kn, K⟩ := put_cell (i := 0) (.int .i64 (a - 1)) k1; refine st_sk rfl rfl (ex_store rfl rfl rfl (sto3 (at_cell k1 rfl) (unfrozen k1))) ?_; obtain ⟨W4, hW2⟩ : ∃ W', W3.setCell ⟨b1, 0, none⟩ (.int .i64 (a - 1)) = W' := ⟨_, rfl⟩; rw [hW2] at kn K ⊢; replace E := below_put E ge_b1 K; replace k2 := keepK K k2 (fun e => by first | exact ne_b2_b1 e | exact ne_b1_b2 e.symm); replace k1 := kn; clear kn K
        refine st_end ?_; subst hQ; refine wq fun Q hQ => ?_; refine vv (.agg #[(.int .i64 (a - 1)), (.int .i64 p.gat), (.int .i64 p.bad), (.int .i64 t)]) 26 rfl rfl (ex_load (p := (Pz b1 0)) rfl rfl (ld_all k1 Try.underlying47 rfl inf47)) ?_; obtain ⟨W5, hst, kn, K⟩ := put_all (D := #[(.int .i64 (a - 1)), (.int .i64 p.gat), (.int .i64 p.bad), (.int .i64 t)]) k2 rfl inf47 (by kernel_rfl); refine st_sk rfl rfl (ex_store rfl rfl rfl hst) ?_; replace E := below_put E ge_b2 K; replace k1 := keepK K k1 (fun e => by first | exact ne_b1_b2 e | exact ne_b2_b1 e.symm); replace k2 := kn
        clear kn K hst; refine st_end ?_; subst hQ; refine wp_ret ?_
        repeat (first | refine ret_out ?_ | refine ret_blk ?_)
        refine bodyPost_ret (results_cell_row Try.results91 _ _ b2 _ _ _ _ rfl k2 Try.underlying47 rfl inf47) rfl ⟨?_, E⟩
        show Ending.returned (.agg #[(.int .i64 (a - 1)), (.int .i64 p.gat), (.int .i64 p.bad), (.int .i64 t)]) = _
        simp [lrnN, PL, ea, et, e0, e1, e2]
      · skip
        refine vv (.int .i64 p.good) 24 rfl rfl (ex_min rfl rfl rfl (by omega)) ?_; refine vv (Pz b1 0) 25 rfl rfl (ex_fa (p := (Pz b1 0)) rfl rfl (fa47_0 _ _)) ?_; obtain ⟨kn, K⟩ := put_cell (i := 0) (.int .i64 p.good) k1; refine st_sk rfl rfl (ex_store rfl rfl rfl (sto3 (at_cell k1 rfl) (unfrozen k1))) ?_; obtain ⟨W4, hW2⟩ : ∃ W', W3.setCell ⟨b1, 0, none⟩ (.int .i64 p.good) = W' := ⟨_, rfl⟩; rw [hW2] at kn K ⊢; replace E := below_put E ge_b1 K; replace k2 := keepK K k2 (fun e => by first | exact ne_b2_b1 e | exact ne_b1_b2 e.symm); replace k1 := kn; clear kn K
        refine st_end ?_; subst hQ; refine wq fun Q hQ => ?_; refine vv (.agg #[(.int .i64 p.good), (.int .i64 p.gat), (.int .i64 p.bad), (.int .i64 t)]) 26 rfl rfl (ex_load (p := (Pz b1 0)) rfl rfl (ld_all k1 Try.underlying47 rfl inf47)) ?_; obtain ⟨W5, hst, kn, K⟩ := put_all (D := #[(.int .i64 p.good), (.int .i64 p.gat), (.int .i64 p.bad), (.int .i64 t)]) k2 rfl inf47 (by kernel_rfl); refine st_sk rfl rfl (ex_store rfl rfl rfl hst) ?_; replace E := below_put E ge_b2 K; replace k1 := keepK K k1 (fun e => by first | exact ne_b1_b2 e | exact ne_b2_b1 e.symm); replace k2 := kn
        clear kn K hst; refine st_end ?_; subst hQ; refine wp_ret ?_
        repeat (first | refine ret_out ?_ | refine ret_blk ?_)
        refine bodyPost_ret (results_cell_row Try.results91 _ _ b2 _ _ _ _ rfl k2 Try.underlying47 rfl inf47) rfl ⟨?_, E⟩
        show Ending.returned (.agg #[(.int .i64 p.good), (.int .i64 p.gat), (.int .i64 p.bad), (.int .i64 t)]) = _
        simp [lrnN, PL, ea, et, e0, e1, e2]
set_option maxHeartbeats 8000000 in
theorem slearn_any {p : PV} (a t : Int) (g : Bool) (w : World) (a1 : -9223372036854775808 ≤ a) (a2 : a ≤ 9223372036854775807) : Calls Try.prog 66 #[.agg (PL p), .int .i64 a, .int .i64 t, .bool g] w fun e w' => e = .returned (.agg (PL (lrnN p a t g))) ∧ Below w.heap.size w w' := by
  cases g with
  | true =>
    have E : Below w.heap.size w w := Below.refl _ _
    go_enter Try.func66, Try.ntmps66; refine wq fun Q hQ => ?_; refine st_new (fun b => .pointer (some ⟨b, 0, none⟩)) (some 4) rfl rfl (ex_box rfl rfl) ?_; intro b1 W1 k1 g1 B; simp only [zp]; have ge_b1 := Nat.le_trans E.size g1; replace E := below_next E B; clear B; refine st_new (fun b => .pointer (some ⟨b, 0, none⟩)) (some 8) rfl rfl (ex_alloc rfl zero47) ?_; intro b2 W2 k2 g2 B; simp only [zp]
    have ne_b2_b1 : b2 ≠ b1 := fun e => by have := lt_of k1; omega
    have ge_b2 := Nat.le_trans E.size g2; replace E := below_next E B; replace k1 := keep B k1; clear B; refine st_end ?_; subst hQ; refine wp_seq ?_; refine wp_block ?_; refine wq fun Q hQ => ?_; refine vm (.int .i64 a) 10 rfl rfl rfl rfl ?_
    by_cases e0 : a < 1
    · skip
      refine vv (.bool true) 11 rfl rfl (ex_bin (u := (.int .i64 a)) (r := (.int .i64 1)) rfl rfl rfl (eg3 _ _ _ _ _ _) (lss3 _ (decide_eq_true (by omega)))) ?_; refine vm (.bool true) 12 rfl rfl rfl rfl ?_; refine vn 13 rfl rfl ?_; refine vn 14 rfl rfl ?_; refine vv (.bool true) 15 rfl rfl (ex_pkT rfl rfl rfl) ?_; refine vg (.bool true) 9 rfl rfl rfl rfl ?_; refine st_end ?_; subst hQ; refine wp_cond_true rfl ?_; refine wq fun Q hQ => ?_; refine vv (.agg (PL p)) 16 rfl rfl (ex_load (p := (Pz b1 0)) rfl rfl (ld_all k1 Try.underlying47 rfl inf47)) ?_
      obtain ⟨W3, hst, kn, K⟩ := put_all (D := (PL p)) k2 rfl inf47 (by kernel_rfl); refine st_sk rfl rfl (ex_store rfl rfl rfl hst) ?_; replace E := below_put E ge_b2 K; replace k1 := keepK K k1 (fun e => by first | exact ne_b1_b2 e | exact ne_b2_b1 e.symm); replace k2 := kn; clear kn K hst; refine st_end ?_; subst hQ; refine wp_ret ?_
      repeat (first | refine ret_out ?_ | refine ret_blk ?_)
      refine bodyPost_ret (results_cell_row Try.results66 _ _ b2 _ _ _ _ rfl k2 Try.underlying47 rfl inf47) rfl ⟨?_, E⟩
      show Ending.returned (.agg (PL p)) = _
      rw [show lrnN p a t _ = p from if_pos (by omega)]
    · skip
      refine vv (.bool false) 11 rfl rfl (ex_bin (u := (.int .i64 a)) (r := (.int .i64 1)) rfl rfl rfl (eg3 _ _ _ _ _ _) (lss3 _ (decide_eq_false (by omega)))) ?_; refine vm (.bool false) 12 rfl rfl rfl rfl ?_; refine vm (.int .i64 t) 13 rfl rfl rfl rfl ?_
      by_cases e1 : t < 1
      · skip
        refine vv (.bool true) 14 rfl rfl (ex_bin (u := (.int .i64 t)) (r := (.int .i64 1)) rfl rfl rfl (eg3 _ _ _ _ _ _) (lss3 _ (decide_eq_true (by omega)))) ?_; refine vv (.bool true) 15 rfl rfl (ex_pkF rfl rfl rfl) ?_; refine vg (.bool true) 9 rfl rfl rfl rfl ?_; refine st_end ?_; subst hQ; refine wp_cond_true rfl ?_; refine wq fun Q hQ => ?_; refine vv (.agg (PL p)) 16 rfl rfl (ex_load (p := (Pz b1 0)) rfl rfl (ld_all k1 Try.underlying47 rfl inf47)) ?_; obtain ⟨W3, hst, kn, K⟩ := put_all (D := (PL p)) k2 rfl inf47 (by kernel_rfl); refine st_sk rfl rfl (ex_store rfl rfl rfl hst) ?_
        replace E := below_put E ge_b2 K; replace k1 := keepK K k1 (fun e => by first | exact ne_b1_b2 e | exact ne_b2_b1 e.symm); replace k2 := kn; clear kn K hst; refine st_end ?_; subst hQ; refine wp_ret ?_
        repeat (first | refine ret_out ?_ | refine ret_blk ?_)
        refine bodyPost_ret (results_cell_row Try.results66 _ _ b2 _ _ _ _ rfl k2 Try.underlying47 rfl inf47) rfl ⟨?_, E⟩
        show Ending.returned (.agg (PL p)) = _
        rw [show lrnN p a t _ = p from if_pos (by omega)]
      · skip
        refine vv (.bool false) 14 rfl rfl (ex_bin (u := (.int .i64 t)) (r := (.int .i64 1)) rfl rfl rfl (eg3 _ _ _ _ _ _) (lss3 _ (decide_eq_false (by omega)))) ?_; refine vv (.bool false) 15 rfl rfl (ex_pkF rfl rfl rfl) ?_; refine vg (.bool false) 9 rfl rfl rfl rfl ?_; refine st_end ?_; subst hQ; refine wp_cond_false rfl ?_; refine wq fun Q hQ => ?_; refine vm (.bool true) 18 rfl rfl rfl rfl ?_; refine vg (.bool true) 17 rfl rfl rfl rfl ?_; refine st_end ?_; subst hQ; refine wp_cond_true rfl ?_; refine wq fun Q hQ => ?_
        refine vv (.agg (PL p)) 19 rfl rfl (ex_load (p := (Pz b1 0)) rfl rfl (ld_all k1 Try.underlying47 rfl inf47)) ?_; refine vm (.int .i64 a) 20 rfl rfl rfl rfl ?_; refine vm (.int .i64 t) 21 rfl rfl rfl rfl ?_; refine st_call (some 22) rfl rfl (swentThrough_any (p := p) a t W2 (by omega) a2 (by omega)) (ex_call (f := 90) (vs := [(.agg (PL p)), (.int .i64 a), (.int .i64 t)]) rfl (cf90 _) rfl) ?_; rintro e W3 ⟨rfl, B⟩; refine ⟨_, rfl, ?_⟩; simp only [zp]; replace E := below_next E B; replace k1 := keep B k1; replace k2 := keep B k2
        obtain ⟨W4, hst, kn, K⟩ := put_all (D := (PL (lrnN p a t true))) k2 rfl inf47 (by kernel_rfl); refine st_sk rfl rfl (ex_store rfl rfl rfl hst) ?_; replace E := below_put E ge_b2 K; replace k1 := keepK K k1 (fun e => by first | exact ne_b1_b2 e | exact ne_b2_b1 e.symm); replace k2 := kn; clear kn K hst; refine st_end ?_; subst hQ; refine wp_ret ?_
        repeat (first | refine ret_out ?_ | refine ret_blk ?_)
        refine bodyPost_ret (results_cell_row Try.results66 _ _ b2 _ _ _ _ rfl k2 Try.underlying47 rfl inf47) rfl ⟨?_, E⟩
        show Ending.returned (.agg (PL (lrnN p a t true))) = _
        rfl
  | false =>
    have E : Below w.heap.size w w := Below.refl _ _
    go_enter Try.func66, Try.ntmps66; refine wq fun Q hQ => ?_; refine st_new (fun b => .pointer (some ⟨b, 0, none⟩)) (some 4) rfl rfl (ex_box rfl rfl) ?_; intro b1 W1 k1 g1 B; simp only [zp]; have ge_b1 := Nat.le_trans E.size g1; replace E := below_next E B; clear B; refine st_new (fun b => .pointer (some ⟨b, 0, none⟩)) (some 8) rfl rfl (ex_alloc rfl zero47) ?_; intro b2 W2 k2 g2 B; simp only [zp]
    have ne_b2_b1 : b2 ≠ b1 := fun e => by have := lt_of k1; omega
    have ge_b2 := Nat.le_trans E.size g2; replace E := below_next E B; replace k1 := keep B k1; clear B; refine st_end ?_; subst hQ; refine wp_seq ?_; refine wp_block ?_; refine wq fun Q hQ => ?_; refine vm (.int .i64 a) 10 rfl rfl rfl rfl ?_
    by_cases e0 : a < 1
    · skip
      refine vv (.bool true) 11 rfl rfl (ex_bin (u := (.int .i64 a)) (r := (.int .i64 1)) rfl rfl rfl (eg3 _ _ _ _ _ _) (lss3 _ (decide_eq_true (by omega)))) ?_; refine vm (.bool true) 12 rfl rfl rfl rfl ?_; refine vn 13 rfl rfl ?_; refine vn 14 rfl rfl ?_; refine vv (.bool true) 15 rfl rfl (ex_pkT rfl rfl rfl) ?_; refine vg (.bool true) 9 rfl rfl rfl rfl ?_; refine st_end ?_; subst hQ; refine wp_cond_true rfl ?_; refine wq fun Q hQ => ?_; refine vv (.agg (PL p)) 16 rfl rfl (ex_load (p := (Pz b1 0)) rfl rfl (ld_all k1 Try.underlying47 rfl inf47)) ?_
      obtain ⟨W3, hst, kn, K⟩ := put_all (D := (PL p)) k2 rfl inf47 (by kernel_rfl); refine st_sk rfl rfl (ex_store rfl rfl rfl hst) ?_; replace E := below_put E ge_b2 K; replace k1 := keepK K k1 (fun e => by first | exact ne_b1_b2 e | exact ne_b2_b1 e.symm); replace k2 := kn; clear kn K hst; refine st_end ?_; subst hQ; refine wp_ret ?_
      repeat (first | refine ret_out ?_ | refine ret_blk ?_)
      refine bodyPost_ret (results_cell_row Try.results66 _ _ b2 _ _ _ _ rfl k2 Try.underlying47 rfl inf47) rfl ⟨?_, E⟩
      show Ending.returned (.agg (PL p)) = _
      rw [show lrnN p a t _ = p from if_pos (by omega)]
    · skip
      refine vv (.bool false) 11 rfl rfl (ex_bin (u := (.int .i64 a)) (r := (.int .i64 1)) rfl rfl rfl (eg3 _ _ _ _ _ _) (lss3 _ (decide_eq_false (by omega)))) ?_; refine vm (.bool false) 12 rfl rfl rfl rfl ?_; refine vm (.int .i64 t) 13 rfl rfl rfl rfl ?_
      by_cases e1 : t < 1
      · skip
        refine vv (.bool true) 14 rfl rfl (ex_bin (u := (.int .i64 t)) (r := (.int .i64 1)) rfl rfl rfl (eg3 _ _ _ _ _ _) (lss3 _ (decide_eq_true (by omega)))) ?_; refine vv (.bool true) 15 rfl rfl (ex_pkF rfl rfl rfl) ?_; refine vg (.bool true) 9 rfl rfl rfl rfl ?_; refine st_end ?_; subst hQ; refine wp_cond_true rfl ?_; refine wq fun Q hQ => ?_; refine vv (.agg (PL p)) 16 rfl rfl (ex_load (p := (Pz b1 0)) rfl rfl (ld_all k1 Try.underlying47 rfl inf47)) ?_; obtain ⟨W3, hst, kn, K⟩ := put_all (D := (PL p)) k2 rfl inf47 (by kernel_rfl); refine st_sk rfl rfl (ex_store rfl rfl rfl hst) ?_
        replace E := below_put E ge_b2 K; replace k1 := keepK K k1 (fun e => by first | exact ne_b1_b2 e | exact ne_b2_b1 e.symm); replace k2 := kn; clear kn K hst; refine st_end ?_; subst hQ; refine wp_ret ?_
        repeat (first | refine ret_out ?_ | refine ret_blk ?_)
        refine bodyPost_ret (results_cell_row Try.results66 _ _ b2 _ _ _ _ rfl k2 Try.underlying47 rfl inf47) rfl ⟨?_, E⟩
        show Ending.returned (.agg (PL p)) = _
        rw [show lrnN p a t _ = p from if_pos (by omega)]
      · skip
        refine vv (.bool false) 14 rfl rfl (ex_bin (u := (.int .i64 t)) (r := (.int .i64 1)) rfl rfl rfl (eg3 _ _ _ _ _ _) (lss3 _ (decide_eq_false (by omega)))) ?_; refine vv (.bool false) 15 rfl rfl (ex_pkF rfl rfl rfl) ?_; refine vg (.bool false) 9 rfl rfl rfl rfl ?_; refine st_end ?_; subst hQ; refine wp_cond_false rfl ?_; refine wq fun Q hQ => ?_; refine vm (.bool false) 18 rfl rfl rfl rfl ?_; refine vg (.bool false) 17 rfl rfl rfl rfl ?_; refine st_end ?_; subst hQ; refine wp_cond_false rfl ?_; refine wp_skip ?_; refine wq fun Q hQ => ?_
        refine vv (.agg (PL p)) 23 rfl rfl (ex_load (p := (Pz b1 0)) rfl rfl (ld_all k1 Try.underlying47 rfl inf47)) ?_; refine vm (.int .i64 a) 24 rfl rfl rfl rfl ?_; refine vm (.int .i64 t) 25 rfl rfl rfl rfl ?_; refine st_call (some 26) rfl rfl (sfailed_any (p := p) a t W2 (by omega) a2 (by omega)) (ex_call (f := 91) (vs := [(.agg (PL p)), (.int .i64 a), (.int .i64 t)]) rfl (cf91 _) rfl) ?_; rintro e W3 ⟨rfl, B⟩; refine ⟨_, rfl, ?_⟩; simp only [zp]; replace E := below_next E B; replace k1 := keep B k1; replace k2 := keep B k2
        obtain ⟨W4, hst, kn, K⟩ := put_all (D := (PL (lrnN p a t false))) k2 rfl inf47 (by kernel_rfl); refine st_sk rfl rfl (ex_store rfl rfl rfl hst) ?_; replace E := below_put E ge_b2 K; replace k1 := keepK K k1 (fun e => by first | exact ne_b1_b2 e | exact ne_b2_b1 e.symm); replace k2 := kn; clear kn K hst; refine st_end ?_; subst hQ; refine wp_ret ?_
        repeat (first | refine ret_out ?_ | refine ret_blk ?_)
        refine bodyPost_ret (results_cell_row Try.results66 _ _ b2 _ _ _ _ rfl k2 Try.underlying47 rfl inf47) rfl ⟨?_, E⟩
        show Ending.returned (.agg (PL (lrnN p a t false))) = _
        rfl
set_option maxHeartbeats 8000000 in
theorem sjoin_any {ao : Option Addr} {n c : Nat} {z : Nat → Nat} (w : World) (hF : Fs w ao n z) (hn : n ≤ 140737488355328) (hz : ∀ i, i < n → z i < 18446744073709551616) : Calls Try.prog 18 #[.slice ao n c] w fun e w' => e = .returned (.float .f64 (jk z n 0 0)) ∧ Below w.heap.size w w' := by
  obtain ⟨J, hJ⟩ : ∃ J, jk z n 0 0 = J := ⟨_, rfl⟩; rw [hJ]
  have E : Below w.heap.size w w := Below.refl _ _
  go_enter Try.func18, Try.ntmps18; refine wq fun Q hQ => ?_; refine vg (.float .f64 0) 2 rfl rfl rfl rfl ?_; refine st_end ?_; subst hQ; refine wq fun Q hQ => ?_; refine vg (.float .f64 0) 3 rfl rfl rfl rfl ?_; refine st_end ?_; subst hQ; refine wp_seq ?_; refine wq fun Q hQ => ?_; refine vm (.slice ao n c) 6 rfl rfl rfl rfl ?_; refine vv (.int .i64 (n : Nat)) 7 rfl rfl (ex_len rfl rfl (len50 _ _ _ _ _)) ?_; refine vm (.int .i64 0) 8 rfl rfl rfl rfl ?_; refine st_end ?_; subst hQ; refine wp_block ?_
  go_loopw [3, 8] (fun v3 v8 wr => ∃ i s : Nat, i ≤ n ∧ v8 = .int .i64 i ∧ v3 = .float .f64 s ∧ s ≤ 9218868437227405312 ∧ (jk z (n - i) i s = J ∨ (s = 9218868437227405312 ∧ J = 9218868437227405312)) ∧ Below w.heap.size w wr) (fun _ v8 _ => n - (intOf v8).toNat)
  case atStart => exact ⟨0, 0, Nat.zero_le _, rfl, rfl, Nat.zero_le _, .inl hJ, E⟩
  case round =>
    obtain ⟨i, s, hi, rfl, rfl, hs, hj, E⟩ := hrel
    by_cases hlt : i < n
    · rcases hF with h | ⟨b, off, rfl, h⟩
      · omega
      have hx := hz i hlt; have hcell := h i hlt; obtain ⟨m, hm⟩ : ∃ m, n - i = m + 1 := ⟨n - i - 1, by omega⟩
      by_cases e0 : isN (z i) = true
      · skip
        have hk : okJ (z i) = false := by unfold okJ; rw [e0]; rfl
        have hJI := jk_bad hm hj hk; subst hJI; refine wq fun Q hQ => ?_; refine vv (.bool true) 9 rfl rfl (ex_bin (u := (.int .i64 (i : Nat))) (r := (.int .i64 (n : Nat))) rfl rfl rfl (eg3 _ _ _ _ _ _) (lss3 _ (decide_eq_true (by omega)))) ?_; refine st_end ?_; subst hQ; refine wp_seq ?_; refine wp_cond_true rfl ?_; refine wp_skip ?_; refine wp_seq ?_; refine wp_block ?_; refine wq fun Q hQ => ?_; refine vv (.pointer (some ⟨b, (off + i), none⟩)) 10 rfl rfl (ex_ixF rfl rfl rfl hlt) ?_
        refine vv (.float .f64 (z i)) 11 rfl rfl (ex_load rfl rfl (ld34 ((E.cell (block_lt_of_cell hcell)).trans hcell))) ?_; refine vg (.float .f64 (z i)) 5 rfl rfl rfl rfl ?_; refine st_end ?_; subst hQ; refine wp_seq ?_; refine wq fun Q hQ => ?_; refine vm (.float .f64 (z i)) 12 rfl rfl rfl rfl ?_; refine vv (.bool false) 13 rfl rfl (ex_bin rfl rfl rfl (egF _ _ _ _ _ _) (geqF _ (no_ge (.inl e0)))) ?_; refine vv (.bool true) 14 rfl rfl (ex_not rfl rfl rfl) ?_; refine st_end ?_; subst hQ; refine wp_cond_true rfl ?_; refine wq fun Q hQ => ?_
        refine st_call (some 15) rfl rfl (inf_any wr) (ex_call (f := 54) (vs := [(.int .i64 1)]) rfl (cf54 _) rfl) ?_; rintro e W1 ⟨rfl, B⟩; refine ⟨_, rfl, ?_⟩; simp only [zp]; replace E := below_next E B; refine vg (.float .f64 9218868437227405312) 2 rfl rfl rfl rfl ?_; refine st_end ?_; subst hQ; refine wp_ret ?_
        repeat (first | refine ret_out ?_ | refine ret_blk ?_)
        exact bodyPost_ret (results_tmp Try.results18 _ _ _) rfl ⟨rfl, E⟩
      replace e0 := Bool.eq_false_iff.2 e0
      by_cases e1 : 0 ≤ key (z i)
      · skip
        obtain ⟨t, ht, hts, htj⟩ := jk_on hm hs hx e0 e1 hj; refine wq fun Q hQ => ?_; refine vv (.bool true) 9 rfl rfl (ex_bin (u := (.int .i64 (i : Nat))) (r := (.int .i64 (n : Nat))) rfl rfl rfl (eg3 _ _ _ _ _ _) (lss3 _ (decide_eq_true (by omega)))) ?_; refine st_end ?_; subst hQ; refine wp_seq ?_; refine wp_cond_true rfl ?_; refine wp_skip ?_; refine wp_seq ?_; refine wp_block ?_; refine wq fun Q hQ => ?_; refine vv (.pointer (some ⟨b, (off + i), none⟩)) 10 rfl rfl (ex_ixF rfl rfl rfl hlt) ?_
        refine vv (.float .f64 (z i)) 11 rfl rfl (ex_load rfl rfl (ld34 ((E.cell (block_lt_of_cell hcell)).trans hcell))) ?_; refine vg (.float .f64 (z i)) 5 rfl rfl rfl rfl ?_; refine st_end ?_; subst hQ; refine wp_seq ?_; refine wq fun Q hQ => ?_; refine vm (.float .f64 (z i)) 12 rfl rfl rfl rfl ?_; refine vv (.bool true) 13 rfl rfl (ex_bin rfl rfl rfl (egF _ _ _ _ _ _) (geqF _ (is_ge e0 N0 (decide_eq_true (by rw [key_zero]; omega))))) ?_; refine vv (.bool false) 14 rfl rfl (ex_not rfl rfl rfl) ?_; refine st_end ?_; subst hQ; refine wp_cond_false rfl ?_; refine wp_skip ?_
        refine wl_in (wl_cap fun Q hQ => ?_); refine vm (.float .f64 s) 16 rfl rfl rfl rfl ?_; refine vm (.float .f64 (z i)) 17 rfl rfl rfl rfl ?_; refine vv (.float .f64 t) 18 rfl rfl (ex_bin rfl rfl rfl (egF _ _ _ _ _ _) (fadd_run _ (ht))) ?_; refine vg (.float .f64 t) 3 rfl rfl rfl rfl ?_; refine st_end ?_; subst hQ; refine wl_in (wl_cap fun Q hQ => ?_); refine vv (.int .i64 ((i + 1 : Nat) : Int)) 19 rfl rfl (ex_bin rfl rfl rfl (eg3 _ _ _ _ _ _) (add3 _ (by omega) (by omega))) ?_; refine vm (.int .i64 ((i + 1 : Nat) : Int)) 8 rfl rfl rfl rfl ?_; refine st_end ?_; subst hQ
        refine then_go ?_
        first | (go_big_round; refine ⟨?rel, ?measure⟩) | (refine ⟨?_, ?measure⟩; (repeat apply Exists.intro); refine ⟨?rel, rfl⟩)
        case rel => exact ⟨i + 1, t, by omega, rfl, rfl, hts, htj, E⟩
        case measure => simp [intOf]; omega
      · skip
        have hk : okJ (z i) = false := by unfold okJ; rw [decide_eq_false e1]; simp
        have hJI := jk_bad hm hj hk; subst hJI; refine wq fun Q hQ => ?_; refine vv (.bool true) 9 rfl rfl (ex_bin (u := (.int .i64 (i : Nat))) (r := (.int .i64 (n : Nat))) rfl rfl rfl (eg3 _ _ _ _ _ _) (lss3 _ (decide_eq_true (by omega)))) ?_; refine st_end ?_; subst hQ; refine wp_seq ?_; refine wp_cond_true rfl ?_; refine wp_skip ?_; refine wp_seq ?_; refine wp_block ?_; refine wq fun Q hQ => ?_; refine vv (.pointer (some ⟨b, (off + i), none⟩)) 10 rfl rfl (ex_ixF rfl rfl rfl hlt) ?_
        refine vv (.float .f64 (z i)) 11 rfl rfl (ex_load rfl rfl (ld34 ((E.cell (block_lt_of_cell hcell)).trans hcell))) ?_; refine vg (.float .f64 (z i)) 5 rfl rfl rfl rfl ?_; refine st_end ?_; subst hQ; refine wp_seq ?_; refine wq fun Q hQ => ?_; refine vm (.float .f64 (z i)) 12 rfl rfl rfl rfl ?_; refine vv (.bool false) 13 rfl rfl (ex_bin rfl rfl rfl (egF _ _ _ _ _ _) (geqF _ (is_ge e0 N0 (decide_eq_false (by rw [key_zero]; omega))))) ?_; refine vv (.bool true) 14 rfl rfl (ex_not rfl rfl rfl) ?_; refine st_end ?_; subst hQ; refine wp_cond_true rfl ?_; refine wq fun Q hQ => ?_
        refine st_call (some 15) rfl rfl (inf_any wr) (ex_call (f := 54) (vs := [(.int .i64 1)]) rfl (cf54 _) rfl) ?_; rintro e W2 ⟨rfl, B⟩; refine ⟨_, rfl, ?_⟩; simp only [zp]; replace E := below_next E B; refine vg (.float .f64 9218868437227405312) 2 rfl rfl rfl rfl ?_; refine st_end ?_; subst hQ; refine wp_ret ?_
        repeat (first | refine ret_out ?_ | refine ret_blk ?_)
        exact bodyPost_ret (results_tmp Try.results18 _ _ _) rfl ⟨rfl, E⟩
    · have hin : i = n := by omega
      subst i
      have hsJ : s = J := by
        rcases hj with hj | hj
        · rw [Nat.sub_self] at hj; exact hj
        · exact hj.1.trans hj.2.symm
      refine wq fun Q hQ => ?_; refine vv (.bool false) 9 rfl rfl (ex_bin (u := (.int .i64 (n : Nat))) (r := (.int .i64 (n : Nat))) rfl rfl rfl (eg3 _ _ _ _ _ _) (lss3 _ (decide_eq_false (by omega)))) ?_; refine st_end ?_; subst hQ; refine wp_seq ?_; refine wp_cond_false rfl ?_; refine wp_exit ?_; refine ex_then ?_; refine ex_then ?_; refine ex_blk ?_; refine wq fun Q hQ => ?_; refine vm (.float .f64 s) 20 rfl rfl rfl rfl ?_; refine vg (.float .f64 s) 2 rfl rfl rfl rfl ?_; refine st_end ?_; subst hQ; refine wp_ret ?_; refine bodyPost_ret (results_tmp Try.results18 _ _ _) rfl ⟨?_, E⟩
      rw [← hsJ]
      rfl
end Go.Proofs.Ytgnkcmmpbohafaa
