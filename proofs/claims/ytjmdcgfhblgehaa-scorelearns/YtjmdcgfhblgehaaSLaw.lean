/- Score: what must come of every program; the walks of the statements. -/
import Derived.Test.YtjmdcgfhblgehaaSDev
namespace Go.Proofs.Ytjmdcgfhblgehaa
open Go.RowKit
set_option linter.unusedVariables false
set_option linter.unusedSimpArgs false
set_option maxRecDepth 100000

theorem asW {f : Nat} {args : Array Value} {w : World} {x y : Nat} (h : x = y) (hc : Calls Try.prog f args w fun e w' => e = .returned (.float .f64 x) ∧ Below w.heap.size w w') : Calls Try.prog f args w fun e w' => e = .returned (.float .f64 y) ∧ Below w.heap.size w w' := by subst h; exact hc
theorem lw64 : wt 64 = 4602678819172646912 := by decide +kernel
theorem lw32 : wt 32 = 4604930618986332160 := by decide +kernel
theorem lg09 : gs 0 9 = 4607182418800017408 := by decide +kernel
theorem lc0 : costN 1 0 0 = 9218868437227405312 := by decide +kernel
theorem lc1 : costN 1 2 4602678819172646912 = 4641979762795872256 := by decide +kernel
theorem lcn : cln 9221120237041090561 = 0 := by decide +kernel
theorem ll1 : lsN 9221120237041090561 4607182418800017408 = false := by decide +kernel
theorem ll2 : lsN 4607182418800017408 9221120237041090561 = true := by decide +kernel
theorem pos_ge {x y : Nat} (hx : x ≤ 9218868437227405312) (hy : y ≤ 9218868437227405312) (h : y ≤ x) : (Ieee.double.order x y == some .gt || Ieee.double.order x y == some .eq) = true :=
  is_ge (isN_pos hx) (isN_pos hy) (decide_eq_true (by rw [key_pos hx, key_pos hy]; have := iv_le h; omega))
theorem pos_le {x y : Nat} (hx : x ≤ 9218868437227405312) (hy : y ≤ 9218868437227405312) (h : x ≤ y) : (Ieee.double.order x y == some .lt || Ieee.double.order x y == some .eq) = true :=
  is_le (isN_pos hx) (isN_pos hy) (decide_eq_true (by rw [key_pos hx, key_pos hy]; have := iv_le h; omega))
theorem same_eq {x : Nat} (hx : isN x = false) : (Ieee.double.order x x == some .eq) = true := is_eq hx hx (decide_eq_true rfl)
theorem lss2 {x : Int} {c : Bool} (W : World) (hc : decide (x < 0) = c) : (binOp .lss 2 (.int .i64 x) (.int .i64 0)).run Try.prog W = .ok (.bool c) W := by
  subst hc
  go_simp
theorem eg2 (bop : BinOp) (x y : Operand) (u v : Int) (W : World) : (eqGuard bop 2 x y (.int .i64 u) (.int .i64 v)).run Try.prog W = .ok () W := by cases bop <;> rfl
section
variable {o : Oper} {a : Act} {W : World}
theorem ex_u2i {x : Operand} {n : Nat} (ho : o.op = .convert 46 2 x) (hx : a.eval x = .int .u64 (n : Int)) (hn : n < 9223372036854775808) : (execOp a.eval o).run Try.prog W = .ok (.value (.int .i64 (n : Int))) W := by
  have h := IntKind.wrap_i64 (n : Int)
  unfold execOp
  simp only [ho, hx]
  go_simp
  all_goals omega
end
theorem bPast (W : World) : (Instr.build 23 #[]).run Try.prog W = .ok (.agg (PL ⟨0, 0, 0, 0⟩)) W := run_build W 23 _ _ (by kernel_rfl)
theorem same_any (x : Nat) (w : World) : Calls Try.prog 10 #[.float .f64 x, .float .f64 x] w fun e w' => e = .returned (.bool true) ∧ Below w.heap.size w w' := by
  have E : Below w.heap.size w w := Below.refl _ _
  go_enter Try.func10, Try.ntmps10
  refine wq fun Q hQ => ?_
  refine sg (.bool false) 4 rfl rfl rfl rfl ?_
  simp only [zp]
  refine st_end ?_
  subst hQ
  refine wq fun Q hQ => ?_
  refine sm (.float .f64 x) 5 rfl rfl rfl rfl ?_
  simp only [zp]
  refine sv (.int .u64 (x : Nat)) 6 rfl rfl (ex_ext1 rfl rfl (call_bits x _)) ?_
  simp only [zp]
  refine sm (.float .f64 x) 7 rfl rfl rfl rfl ?_
  simp only [zp]
  refine sv (.int .u64 (x : Nat)) 8 rfl rfl (ex_ext1 rfl rfl (call_bits x _)) ?_
  simp only [zp]
  refine sv (.bool true) 9 rfl rfl (ex_bin rfl rfl rfl (egU _ _ _ _ _ _) (eqlU _ (decide_eq_true rfl))) ?_
  simp only [zp]
  refine sm (.bool true) 10 rfl rfl rfl rfl ?_
  simp only [zp]
  refine sn 11 rfl rfl ?_
  simp only [zp]
  refine sn 12 rfl rfl ?_
  simp only [zp]
  refine sn 13 rfl rfl ?_
  simp only [zp]
  refine sn 14 rfl rfl ?_
  simp only [zp]
  refine sn 15 rfl rfl ?_
  simp only [zp]
  refine sn 16 rfl rfl ?_
  simp only [zp]
  refine sn 17 rfl rfl ?_
  simp only [zp]
  refine sn 18 rfl rfl ?_
  simp only [zp]
  refine sv (.bool true) 19 rfl rfl (ex_pkT rfl rfl rfl) ?_
  simp only [zp]
  refine sg (.bool true) 4 rfl rfl rfl rfl ?_
  simp only [zp]
  refine st_end ?_
  subst hQ
  refine wp_ret ?_
  repeat (first | refine ret_out ?_ | refine ret_blk ?_)
  exact bodyPost_ret (results_tmp Try.results10 _ _ _) rfl ⟨rfl, E⟩
theorem signbit_any (x : Nat) (w : World) (hx : x ≤ 9218868437227405312) : Calls Try.prog 27 #[.float .f64 x] w fun e w' => e = .returned (.bool false) ∧ Below w.heap.size w w' := by
  have E : Below w.heap.size w w := Below.refl _ _
  go_enter Try.func27, Try.ntmps27
  refine wq fun Q hQ => ?_
  refine sg (.bool false) 2 rfl rfl rfl rfl ?_
  simp only [zp]
  refine st_end ?_
  subst hQ
  refine wq fun Q hQ => ?_
  refine sm (.float .f64 x) 3 rfl rfl rfl rfl ?_
  simp only [zp]
  refine sv (.int .u64 (x : Nat)) 4 rfl rfl (ex_ext1 rfl rfl (call_bits x _)) ?_
  simp only [zp]
  refine sv (.int .i64 (x : Nat)) 5 rfl rfl (ex_u2i rfl rfl (by omega)) ?_
  simp only [zp]
  refine sv (.bool false) 6 rfl rfl (ex_bin rfl rfl rfl (eg2 _ _ _ _ _ _) (lss2 _ (decide_eq_false (by omega)))) ?_
  simp only [zp]
  refine sg (.bool false) 2 rfl rfl rfl rfl ?_
  simp only [zp]
  refine st_end ?_
  subst hQ
  refine wp_ret ?_
  repeat (first | refine ret_out ?_ | refine ret_blk ?_)
  exact bodyPost_ret (results_tmp Try.results27 _ _ _) rfl ⟨rfl, E⟩
set_option maxHeartbeats 4000000 in
theorem lives_any (w : World) : Calls Try.prog 9 #[] w fun e w' => e = .returned (.bool true) ∧ Below w.heap.size w w' := by
  have E : Below w.heap.size w w := Below.refl _ _
  go_enter Try.func9, Try.ntmps9
  refine wq fun Q hQ => ?_
  refine sg (.bool false) 0 rfl rfl rfl rfl ?_
  simp only [zp]
  refine st_end ?_
  subst hQ
  refine wq fun Q hQ => ?_
  refine st_call (some 1) rfl rfl (asW lw64 (sweight_any 64 w (by decide))) (ex_call (f := 13) (vs := [(.int .i64 64)]) rfl (cf13 _) rfl) ?_
  rintro e W1 ⟨rfl, B⟩
  refine ⟨_, rfl, ?_⟩
  simp only [zp]
  replace E := below_next E B
  refine sv (.bool true) 2 rfl rfl (ex_bin rfl rfl rfl (egF _ _ _ _ _ _) (eqlF _ (same_eq (by decide)))) ?_
  simp only [zp]
  refine sm (.bool true) 3 rfl rfl rfl rfl ?_
  simp only [zp]
  refine st_call (some 4) rfl rfl (asW lw32 (sweight_any 32 W1 (by decide))) (ex_call (f := 13) (vs := [(.int .i64 32)]) rfl (cf13 _) rfl) ?_
  rintro e W2 ⟨rfl, B⟩
  refine ⟨_, rfl, ?_⟩
  simp only [zp]
  replace E := below_next E B
  refine sv (.bool true) 5 rfl rfl (ex_bin rfl rfl rfl (egF _ _ _ _ _ _) (eqlF _ (same_eq (by decide)))) ?_
  simp only [zp]
  refine sv (.bool true) 6 rfl rfl (ex_pkT rfl rfl rfl) ?_
  simp only [zp]
  refine sm (.bool true) 7 rfl rfl rfl rfl ?_
  simp only [zp]
  refine st_call (some 8) rfl rfl (asW lg09 (sguess_any 0 9 W2 (by decide))) (ex_call (f := 15) (vs := [(.int .i64 0), (.int .i64 9)]) rfl (cf15 _) rfl) ?_
  rintro e W3 ⟨rfl, B⟩
  refine ⟨_, rfl, ?_⟩
  simp only [zp]
  replace E := below_next E B
  refine sv (.bool true) 9 rfl rfl (ex_bin rfl rfl rfl (egF _ _ _ _ _ _) (eqlF _ (same_eq (by decide)))) ?_
  simp only [zp]
  refine sv (.bool true) 10 rfl rfl (ex_pkT rfl rfl rfl) ?_
  simp only [zp]
  refine sm (.bool true) 11 rfl rfl rfl rfl ?_
  simp only [zp]
  refine st_call (some 12) rfl rfl (asW lc0 (scost_any 1 0 0 W3 (by decide) (by decide) (by decide))) (ex_call (f := 19) (vs := [(.int .i64 1), (.int .i64 0), (.float .f64 0)]) rfl (cf19 _) rfl) ?_
  rintro e W4 ⟨rfl, B⟩
  refine ⟨_, rfl, ?_⟩
  simp only [zp]
  replace E := below_next E B
  refine st_call (some 13) rfl rfl (isinf_any 9218868437227405312 W4 (by decide) rfl) (ex_call (f := 28) (vs := [(.float .f64 9218868437227405312), (.int .i64 1)]) rfl (cf28 _) rfl) ?_
  rintro e W5 ⟨rfl, B⟩
  refine ⟨_, rfl, ?_⟩
  simp only [zp]
  replace E := below_next E B
  refine sv (.bool true) 14 rfl rfl (ex_pkT rfl rfl rfl) ?_
  simp only [zp]
  refine sm (.bool true) 15 rfl rfl rfl rfl ?_
  simp only [zp]
  refine st_call (some 16) rfl rfl (asW lc1 (scost_any 1 2 4602678819172646912 W5 (by decide) (by decide) (by decide))) (ex_call (f := 19) (vs := [(.int .i64 1), (.int .i64 2), (.float .f64 4602678819172646912)]) rfl (cf19 _) rfl) ?_
  rintro e W6 ⟨rfl, B⟩
  refine ⟨_, rfl, ?_⟩
  simp only [zp]
  replace E := below_next E B
  refine sv (.bool true) 17 rfl rfl (ex_bin rfl rfl rfl (egF _ _ _ _ _ _) (eqlF _ (same_eq (by decide)))) ?_
  simp only [zp]
  refine sv (.bool true) 18 rfl rfl (ex_pkT rfl rfl rfl) ?_
  simp only [zp]
  refine sm (.bool true) 19 rfl rfl rfl rfl ?_
  simp only [zp]
  refine st_call (some 20) rfl rfl (nan_any W6) (ex_call (f := 29) (vs := []) rfl (cf29 _) rfl) ?_
  rintro e W7 ⟨rfl, B⟩
  refine ⟨_, rfl, ?_⟩
  simp only [zp]
  replace E := below_next E B
  refine st_call (some 21) rfl rfl (asW lcn (sclean_any 9221120237041090561 W7 (by decide))) (ex_call (f := 11) (vs := [(.float .f64 9221120237041090561)]) rfl (cf11 _) rfl) ?_
  rintro e W8 ⟨rfl, B⟩
  refine ⟨_, rfl, ?_⟩
  simp only [zp]
  replace E := below_next E B
  refine sv (.bool true) 22 rfl rfl (ex_bin rfl rfl rfl (egF _ _ _ _ _ _) (eqlF _ (same_eq (by decide)))) ?_
  simp only [zp]
  refine sv (.bool true) 23 rfl rfl (ex_pkT rfl rfl rfl) ?_
  simp only [zp]
  refine sm (.bool true) 24 rfl rfl rfl rfl ?_
  simp only [zp]
  refine st_call (some 25) rfl rfl (nan_any W8) (ex_call (f := 29) (vs := []) rfl (cf29 _) rfl) ?_
  rintro e W9 ⟨rfl, B⟩
  refine ⟨_, rfl, ?_⟩
  simp only [zp]
  replace E := below_next E B
  refine st_call (some 26) rfl rfl (sless_any 9221120237041090561 4607182418800017408 W9 ll1) (ex_call (f := 23) (vs := [(.float .f64 9221120237041090561), (.float .f64 4607182418800017408)]) rfl (cf23 _) rfl) ?_
  rintro e W10 ⟨rfl, B⟩
  refine ⟨_, rfl, ?_⟩
  simp only [zp]
  replace E := below_next E B
  refine sv (.bool true) 27 rfl rfl (ex_not rfl rfl rfl) ?_
  simp only [zp]
  refine sv (.bool true) 28 rfl rfl (ex_pkT rfl rfl rfl) ?_
  simp only [zp]
  refine sm (.bool true) 29 rfl rfl rfl rfl ?_
  simp only [zp]
  refine st_call (some 30) rfl rfl (nan_any W10) (ex_call (f := 29) (vs := []) rfl (cf29 _) rfl) ?_
  rintro e W11 ⟨rfl, B⟩
  refine ⟨_, rfl, ?_⟩
  simp only [zp]
  replace E := below_next E B
  refine st_call (some 31) rfl rfl (sless_any 4607182418800017408 9221120237041090561 W11 ll2) (ex_call (f := 23) (vs := [(.float .f64 4607182418800017408), (.float .f64 9221120237041090561)]) rfl (cf23 _) rfl) ?_
  rintro e W12 ⟨rfl, B⟩
  refine ⟨_, rfl, ?_⟩
  simp only [zp]
  replace E := below_next E B
  refine sv (.bool true) 32 rfl rfl (ex_pkT rfl rfl rfl) ?_
  simp only [zp]
  refine sg (.bool true) 0 rfl rfl rfl rfl ?_
  simp only [zp]
  refine st_end ?_
  subst hQ
  refine wp_ret ?_
  repeat (first | refine ret_out ?_ | refine ret_blk ?_)
  exact bodyPost_ret (results_tmp Try.results9 _ _ _) rfl ⟨rfl, E⟩
set_option maxHeartbeats 4000000 in
theorem forgets_any (a b : Int) (w : World) (ha : a ≤ 9223372036854775807) (hb : b ≤ 9223372036854775807) : Calls Try.prog 8 #[.int .i64 a, .int .i64 b] w fun e w' => e = .returned (.bool true) ∧ Below w.heap.size w w' := by
  have w1 := F1_lt
  have la := wt_le a
  have lb := wt_le b
  by_cases e0 : b < a
  · skip
    have hm := wt_mono b (a - b).toNat
    rw [show b + ((a - b).toNat : Int) = a by omega] at hm
    have E : Below w.heap.size w w := Below.refl _ _
    go_enter Try.func8, Try.ntmps8
    refine wq fun Q hQ => ?_
    refine sg (.bool false) 4 rfl rfl rfl rfl ?_
    simp only [zp]
    refine st_end ?_
    subst hQ
    refine wp_seq ?_
    refine wq fun Q hQ => ?_
    refine sm (.int .i64 a) 7 rfl rfl rfl rfl ?_
    simp only [zp]
    refine sm (.int .i64 b) 8 rfl rfl rfl rfl ?_
    simp only [zp]
    refine sv (.bool true) 9 rfl rfl (ex_bin (u := (.int .i64 a)) (r := (.int .i64 b)) rfl rfl rfl (eg3 _ _ _ _ _ _) (gtr3 _ (decide_eq_true (by omega)))) ?_
    simp only [zp]
    refine st_end ?_
    subst hQ
    refine wp_cond_true rfl ?_
    refine wl_in (wl_cap fun Q hQ => ?_)
    refine sm (.int .i64 b) 10 rfl rfl rfl rfl ?_
    simp only [zp]
    refine sm (.int .i64 a) 11 rfl rfl rfl rfl ?_
    simp only [zp]
    refine sg (.int .i64 b) 0 rfl rfl rfl rfl ?_
    simp only [zp]
    refine sg (.int .i64 a) 1 rfl rfl rfl rfl ?_
    simp only [zp]
    refine st_end ?_
    subst hQ
    refine wq fun Q hQ => ?_
    refine sm (.int .i64 b) 12 rfl rfl rfl rfl ?_
    simp only [zp]
    refine st_call (some 13) rfl rfl (sweight_any b w (by omega)) (ex_call (f := 13) (vs := [(.int .i64 b)]) rfl (cf13 _) rfl) ?_
    rintro e W1 ⟨rfl, B⟩
    refine ⟨_, rfl, ?_⟩
    simp only [zp]
    replace E := below_next E B
    refine sm (.int .i64 a) 14 rfl rfl rfl rfl ?_
    simp only [zp]
    refine st_call (some 15) rfl rfl (sweight_any a W1 (by omega)) (ex_call (f := 13) (vs := [(.int .i64 a)]) rfl (cf13 _) rfl) ?_
    rintro e W2 ⟨rfl, B⟩
    refine ⟨_, rfl, ?_⟩
    simp only [zp]
    replace E := below_next E B
    refine sg (.float .f64 (wt b)) 5 rfl rfl rfl rfl ?_
    simp only [zp]
    refine sg (.float .f64 (wt a)) 6 rfl rfl rfl rfl ?_
    simp only [zp]
    refine st_end ?_
    subst hQ
    refine wq fun Q hQ => ?_
    refine st_call (some 16) rfl rfl (lives_any W2) (ex_call (f := 9) (vs := []) rfl (cf9 _) rfl) ?_
    rintro e W3 ⟨rfl, B⟩
    refine ⟨_, rfl, ?_⟩
    simp only [zp]
    replace E := below_next E B
    refine sm (.bool true) 17 rfl rfl rfl rfl ?_
    simp only [zp]
    refine sm (.float .f64 (wt b)) 18 rfl rfl rfl rfl ?_
    simp only [zp]
    refine sm (.float .f64 (wt a)) 19 rfl rfl rfl rfl ?_
    simp only [zp]
    refine sv (.bool true) 20 rfl rfl (ex_bin rfl rfl rfl (egF _ _ _ _ _ _) (geqF _ (pos_ge (by omega) (by omega) hm))) ?_
    simp only [zp]
    refine sv (.bool true) 21 rfl rfl (ex_pkT rfl rfl rfl) ?_
    simp only [zp]
    refine sm (.bool true) 22 rfl rfl rfl rfl ?_
    simp only [zp]
    refine sm (.float .f64 (wt b)) 23 rfl rfl rfl rfl ?_
    simp only [zp]
    refine sv (.bool true) 24 rfl rfl (ex_bin rfl rfl rfl (egF _ _ _ _ _ _) (leqF _ (pos_le (by omega) (by decide) (by assumption)))) ?_
    simp only [zp]
    refine sv (.bool true) 25 rfl rfl (ex_pkT rfl rfl rfl) ?_
    simp only [zp]
    refine sm (.bool true) 26 rfl rfl rfl rfl ?_
    simp only [zp]
    refine sm (.float .f64 (wt a)) 27 rfl rfl rfl rfl ?_
    simp only [zp]
    refine sv (.bool true) 28 rfl rfl (ex_bin rfl rfl rfl (egF _ _ _ _ _ _) (geqF _ (pos_ge (by omega) (by decide) (Nat.zero_le _)))) ?_
    simp only [zp]
    refine sv (.bool true) 29 rfl rfl (ex_pkT rfl rfl rfl) ?_
    simp only [zp]
    refine sg (.bool true) 4 rfl rfl rfl rfl ?_
    simp only [zp]
    refine st_end ?_
    subst hQ
    refine wp_ret ?_
    repeat (first | refine ret_out ?_ | refine ret_blk ?_)
    exact bodyPost_ret (results_tmp Try.results8 _ _ _) rfl ⟨rfl, E⟩
  · skip
    have hm := wt_mono a (b - a).toNat
    rw [show a + ((b - a).toNat : Int) = b by omega] at hm
    have E : Below w.heap.size w w := Below.refl _ _
    go_enter Try.func8, Try.ntmps8
    refine wq fun Q hQ => ?_
    refine sg (.bool false) 4 rfl rfl rfl rfl ?_
    simp only [zp]
    refine st_end ?_
    subst hQ
    refine wp_seq ?_
    refine wq fun Q hQ => ?_
    refine sm (.int .i64 a) 7 rfl rfl rfl rfl ?_
    simp only [zp]
    refine sm (.int .i64 b) 8 rfl rfl rfl rfl ?_
    simp only [zp]
    refine sv (.bool false) 9 rfl rfl (ex_bin (u := (.int .i64 a)) (r := (.int .i64 b)) rfl rfl rfl (eg3 _ _ _ _ _ _) (gtr3 _ (decide_eq_false (by omega)))) ?_
    simp only [zp]
    refine st_end ?_
    subst hQ
    refine wp_cond_false rfl ?_
    refine wp_skip ?_
    refine wq fun Q hQ => ?_
    refine sm (.int .i64 a) 12 rfl rfl rfl rfl ?_
    simp only [zp]
    refine st_call (some 13) rfl rfl (sweight_any a w (by omega)) (ex_call (f := 13) (vs := [(.int .i64 a)]) rfl (cf13 _) rfl) ?_
    rintro e W1 ⟨rfl, B⟩
    refine ⟨_, rfl, ?_⟩
    simp only [zp]
    replace E := below_next E B
    refine sm (.int .i64 b) 14 rfl rfl rfl rfl ?_
    simp only [zp]
    refine st_call (some 15) rfl rfl (sweight_any b W1 (by omega)) (ex_call (f := 13) (vs := [(.int .i64 b)]) rfl (cf13 _) rfl) ?_
    rintro e W2 ⟨rfl, B⟩
    refine ⟨_, rfl, ?_⟩
    simp only [zp]
    replace E := below_next E B
    refine sg (.float .f64 (wt a)) 5 rfl rfl rfl rfl ?_
    simp only [zp]
    refine sg (.float .f64 (wt b)) 6 rfl rfl rfl rfl ?_
    simp only [zp]
    refine st_end ?_
    subst hQ
    refine wq fun Q hQ => ?_
    refine st_call (some 16) rfl rfl (lives_any W2) (ex_call (f := 9) (vs := []) rfl (cf9 _) rfl) ?_
    rintro e W3 ⟨rfl, B⟩
    refine ⟨_, rfl, ?_⟩
    simp only [zp]
    replace E := below_next E B
    refine sm (.bool true) 17 rfl rfl rfl rfl ?_
    simp only [zp]
    refine sm (.float .f64 (wt a)) 18 rfl rfl rfl rfl ?_
    simp only [zp]
    refine sm (.float .f64 (wt b)) 19 rfl rfl rfl rfl ?_
    simp only [zp]
    refine sv (.bool true) 20 rfl rfl (ex_bin rfl rfl rfl (egF _ _ _ _ _ _) (geqF _ (pos_ge (by omega) (by omega) hm))) ?_
    simp only [zp]
    refine sv (.bool true) 21 rfl rfl (ex_pkT rfl rfl rfl) ?_
    simp only [zp]
    refine sm (.bool true) 22 rfl rfl rfl rfl ?_
    simp only [zp]
    refine sm (.float .f64 (wt a)) 23 rfl rfl rfl rfl ?_
    simp only [zp]
    refine sv (.bool true) 24 rfl rfl (ex_bin rfl rfl rfl (egF _ _ _ _ _ _) (leqF _ (pos_le (by omega) (by decide) (by assumption)))) ?_
    simp only [zp]
    refine sv (.bool true) 25 rfl rfl (ex_pkT rfl rfl rfl) ?_
    simp only [zp]
    refine sm (.bool true) 26 rfl rfl rfl rfl ?_
    simp only [zp]
    refine sm (.float .f64 (wt b)) 27 rfl rfl rfl rfl ?_
    simp only [zp]
    refine sv (.bool true) 28 rfl rfl (ex_bin rfl rfl rfl (egF _ _ _ _ _ _) (geqF _ (pos_ge (by omega) (by decide) (Nat.zero_le _)))) ?_
    simp only [zp]
    refine sv (.bool true) 29 rfl rfl (ex_pkT rfl rfl rfl) ?_
    simp only [zp]
    refine sg (.bool true) 4 rfl rfl rfl rfl ?_
    simp only [zp]
    refine st_end ?_
    subst hQ
    refine wp_ret ?_
    repeat (first | refine ret_out ?_ | refine ret_blk ?_)
    exact bodyPost_ret (results_tmp Try.results8 _ _ _) rfl ⟨rfl, E⟩
/-- a past's ticks are ints -/
structure PB (p : PV) : Prop where
  g1 : -9223372036854775808 ≤ p.gat
  g2 : p.gat ≤ 9223372036854775807
  b1 : -9223372036854775808 ≤ p.bat
  b2 : p.bat ≤ 9223372036854775807
set_option maxHeartbeats 8000000 in
theorem ranges_any {p : PV} {a m c t : Int} (w : World) (hp : PB p) (hc : c ≤ 9223372036854775807) (t1 : -9223372036854775808 ≤ t) (t2 : t ≤ 9223372036854775807) : Calls Try.prog 6 #[.agg (PL p), .int .i64 a, .int .i64 m, .int .i64 c, .int .i64 t] w fun e w' => e = .returned (.bool true) ∧ Below w.heap.size w w' := by
  have w1 := F1_lt
  have lc := chN_le p a c t hc
  have ea := chN_empty a c t hc
  have em := chN_empty m c t hc
  have ga := gs_le a c hc
  have gm := gs_le m c hc
  by_cases e0 : m < a
  · skip
    by_cases e0 : m < 0
    · skip
      have E : Below w.heap.size w w := Below.refl _ _
      go_enter Try.func6, Try.ntmps6
      refine wq fun Q hQ => ?_
      refine st_new (fun b => .pointer (some ⟨b, 0, none⟩)) (some 5) rfl rfl (ex_box rfl rfl) ?_
      intro b1 W1 k1 g1 B
      simp only [zp]
      have ge_b1 := Nat.le_trans E.size g1
      replace E := below_next E B
      clear B
      refine sg (.bool false) 10 rfl rfl rfl rfl ?_
      simp only [zp]
      refine st_end ?_
      subst hQ
      refine wq fun Q hQ => ?_
      refine sv (.agg (PL p)) 12 rfl rfl (ex_load (p := (.pointer (some ⟨b1, 0, none⟩))) rfl rfl (ld_all k1 Try.underlying23 rfl inf23)) ?_
      simp only [zp]
      refine sm (.int .i64 a) 13 rfl rfl rfl rfl ?_
      simp only [zp]
      refine sm (.int .i64 c) 14 rfl rfl rfl rfl ?_
      simp only [zp]
      refine sm (.int .i64 t) 15 rfl rfl rfl rfl ?_
      simp only [zp]
      refine st_call (some 16) rfl rfl (schance_any (p := p) W1 hc t1 t2 hp.g1 hp.g2 hp.b1 hp.b2) (ex_call (f := 17) (vs := [(.agg (PL p)), (.int .i64 a), (.int .i64 c), (.int .i64 t)]) rfl (cf17 _) rfl) ?_
      rintro e W2 ⟨rfl, B⟩
      refine ⟨_, rfl, ?_⟩
      simp only [zp]
      replace E := below_next E B
      replace k1 := keep B k1
      refine sg (.float .f64 (chN p a c t)) 11 rfl rfl rfl rfl ?_
      simp only [zp]
      refine st_end ?_
      subst hQ
      refine wp_seq ?_
      refine wq fun Q hQ => ?_
      refine st_call (some 17) rfl rfl (lives_any W2) (ex_call (f := 9) (vs := []) rfl (cf9 _) rfl) ?_
      rintro e W3 ⟨rfl, B⟩
      refine ⟨_, rfl, ?_⟩
      simp only [zp]
      replace E := below_next E B
      replace k1 := keep B k1
      refine sv (.bool false) 18 rfl rfl (ex_not rfl rfl rfl) ?_
      simp only [zp]
      refine sm (.bool false) 19 rfl rfl rfl rfl ?_
      simp only [zp]
      refine sm (.float .f64 (chN p a c t)) 20 rfl rfl rfl rfl ?_
      simp only [zp]
      refine sv (.bool true) 21 rfl rfl (ex_bin rfl rfl rfl (egF _ _ _ _ _ _) (geqF _ (pos_ge (by omega) (by decide) (Nat.zero_le _)))) ?_
      simp only [zp]
      refine sm (.bool true) 22 rfl rfl rfl rfl ?_
      simp only [zp]
      refine sm (.float .f64 (chN p a c t)) 23 rfl rfl rfl rfl ?_
      simp only [zp]
      refine sv (.bool true) 24 rfl rfl (ex_bin rfl rfl rfl (egF _ _ _ _ _ _) (leqF _ (pos_le (by omega) (by decide) (by assumption)))) ?_
      simp only [zp]
      refine sv (.bool true) 25 rfl rfl (ex_pkT rfl rfl rfl) ?_
      simp only [zp]
      refine sv (.bool false) 26 rfl rfl (ex_not rfl rfl rfl) ?_
      simp only [zp]
      refine sv (.bool false) 27 rfl rfl (ex_pkF rfl rfl rfl) ?_
      simp only [zp]
      refine sm (.bool false) 28 rfl rfl rfl rfl ?_
      simp only [zp]
      refine sm (.float .f64 (chN p a c t)) 29 rfl rfl rfl rfl ?_
      simp only [zp]
      refine st_call (some 30) rfl rfl (signbit_any (chN p a c t) W3 (by omega)) (ex_call (f := 27) (vs := [(.float .f64 (chN p a c t))]) rfl (cf27 _) rfl) ?_
      rintro e W4 ⟨rfl, B⟩
      refine ⟨_, rfl, ?_⟩
      simp only [zp]
      replace E := below_next E B
      replace k1 := keep B k1
      refine sv (.bool false) 31 rfl rfl (ex_pkF rfl rfl rfl) ?_
      simp only [zp]
      refine st_end ?_
      subst hQ
      refine wp_cond_false rfl ?_
      refine wp_skip ?_
      refine wp_seq ?_
      refine wq fun Q hQ => ?_
      refine sm (.int .i64 m) 32 rfl rfl rfl rfl ?_
      simp only [zp]
      refine sm (.int .i64 a) 33 rfl rfl rfl rfl ?_
      simp only [zp]
      refine sv (.bool true) 34 rfl rfl (ex_bin (u := (.int .i64 m)) (r := (.int .i64 a)) rfl rfl rfl (eg3 _ _ _ _ _ _) (lss3 _ (decide_eq_true (by omega)))) ?_
      simp only [zp]
      refine st_end ?_
      subst hQ
      refine wp_cond_true rfl ?_
      refine wl_in (wl_cap fun Q hQ => ?_)
      refine sm (.int .i64 m) 35 rfl rfl rfl rfl ?_
      simp only [zp]
      refine sm (.int .i64 a) 36 rfl rfl rfl rfl ?_
      simp only [zp]
      refine sg (.int .i64 m) 1 rfl rfl rfl rfl ?_
      simp only [zp]
      refine sg (.int .i64 a) 2 rfl rfl rfl rfl ?_
      simp only [zp]
      refine st_end ?_
      subst hQ
      refine wp_seq ?_
      refine wq fun Q hQ => ?_
      refine sm (.int .i64 m) 37 rfl rfl rfl rfl ?_
      simp only [zp]
      refine sv (.bool true) 38 rfl rfl (ex_bin (u := (.int .i64 m)) (r := (.int .i64 0)) rfl rfl rfl (eg3 _ _ _ _ _ _) (lss3 _ (decide_eq_true (by omega)))) ?_
      simp only [zp]
      refine st_end ?_
      subst hQ
      refine wp_cond_true rfl ?_
      refine wq fun Q hQ => ?_
      refine sg (.bool true) 10 rfl rfl rfl rfl ?_
      simp only [zp]
      refine st_end ?_
      subst hQ
      refine wp_ret ?_
      repeat (first | refine ret_out ?_ | refine ret_blk ?_)
      exact bodyPost_ret (results_tmp Try.results6 _ _ _) rfl ⟨rfl, E⟩
    · skip
      have E : Below w.heap.size w w := Below.refl _ _
      go_enter Try.func6, Try.ntmps6
      refine wq fun Q hQ => ?_
      refine st_new (fun b => .pointer (some ⟨b, 0, none⟩)) (some 5) rfl rfl (ex_box rfl rfl) ?_
      intro b1 W1 k1 g1 B
      simp only [zp]
      have ge_b1 := Nat.le_trans E.size g1
      replace E := below_next E B
      clear B
      refine sg (.bool false) 10 rfl rfl rfl rfl ?_
      simp only [zp]
      refine st_end ?_
      subst hQ
      refine wq fun Q hQ => ?_
      refine sv (.agg (PL p)) 12 rfl rfl (ex_load (p := (.pointer (some ⟨b1, 0, none⟩))) rfl rfl (ld_all k1 Try.underlying23 rfl inf23)) ?_
      simp only [zp]
      refine sm (.int .i64 a) 13 rfl rfl rfl rfl ?_
      simp only [zp]
      refine sm (.int .i64 c) 14 rfl rfl rfl rfl ?_
      simp only [zp]
      refine sm (.int .i64 t) 15 rfl rfl rfl rfl ?_
      simp only [zp]
      refine st_call (some 16) rfl rfl (schance_any (p := p) W1 hc t1 t2 hp.g1 hp.g2 hp.b1 hp.b2) (ex_call (f := 17) (vs := [(.agg (PL p)), (.int .i64 a), (.int .i64 c), (.int .i64 t)]) rfl (cf17 _) rfl) ?_
      rintro e W2 ⟨rfl, B⟩
      refine ⟨_, rfl, ?_⟩
      simp only [zp]
      replace E := below_next E B
      replace k1 := keep B k1
      refine sg (.float .f64 (chN p a c t)) 11 rfl rfl rfl rfl ?_
      simp only [zp]
      refine st_end ?_
      subst hQ
      refine wp_seq ?_
      refine wq fun Q hQ => ?_
      refine st_call (some 17) rfl rfl (lives_any W2) (ex_call (f := 9) (vs := []) rfl (cf9 _) rfl) ?_
      rintro e W3 ⟨rfl, B⟩
      refine ⟨_, rfl, ?_⟩
      simp only [zp]
      replace E := below_next E B
      replace k1 := keep B k1
      refine sv (.bool false) 18 rfl rfl (ex_not rfl rfl rfl) ?_
      simp only [zp]
      refine sm (.bool false) 19 rfl rfl rfl rfl ?_
      simp only [zp]
      refine sm (.float .f64 (chN p a c t)) 20 rfl rfl rfl rfl ?_
      simp only [zp]
      refine sv (.bool true) 21 rfl rfl (ex_bin rfl rfl rfl (egF _ _ _ _ _ _) (geqF _ (pos_ge (by omega) (by decide) (Nat.zero_le _)))) ?_
      simp only [zp]
      refine sm (.bool true) 22 rfl rfl rfl rfl ?_
      simp only [zp]
      refine sm (.float .f64 (chN p a c t)) 23 rfl rfl rfl rfl ?_
      simp only [zp]
      refine sv (.bool true) 24 rfl rfl (ex_bin rfl rfl rfl (egF _ _ _ _ _ _) (leqF _ (pos_le (by omega) (by decide) (by assumption)))) ?_
      simp only [zp]
      refine sv (.bool true) 25 rfl rfl (ex_pkT rfl rfl rfl) ?_
      simp only [zp]
      refine sv (.bool false) 26 rfl rfl (ex_not rfl rfl rfl) ?_
      simp only [zp]
      refine sv (.bool false) 27 rfl rfl (ex_pkF rfl rfl rfl) ?_
      simp only [zp]
      refine sm (.bool false) 28 rfl rfl rfl rfl ?_
      simp only [zp]
      refine sm (.float .f64 (chN p a c t)) 29 rfl rfl rfl rfl ?_
      simp only [zp]
      refine st_call (some 30) rfl rfl (signbit_any (chN p a c t) W3 (by omega)) (ex_call (f := 27) (vs := [(.float .f64 (chN p a c t))]) rfl (cf27 _) rfl) ?_
      rintro e W4 ⟨rfl, B⟩
      refine ⟨_, rfl, ?_⟩
      simp only [zp]
      replace E := below_next E B
      replace k1 := keep B k1
      refine sv (.bool false) 31 rfl rfl (ex_pkF rfl rfl rfl) ?_
      simp only [zp]
      refine st_end ?_
      subst hQ
      refine wp_cond_false rfl ?_
      refine wp_skip ?_
      refine wp_seq ?_
      refine wq fun Q hQ => ?_
      refine sm (.int .i64 m) 32 rfl rfl rfl rfl ?_
      simp only [zp]
      refine sm (.int .i64 a) 33 rfl rfl rfl rfl ?_
      simp only [zp]
      refine sv (.bool true) 34 rfl rfl (ex_bin (u := (.int .i64 m)) (r := (.int .i64 a)) rfl rfl rfl (eg3 _ _ _ _ _ _) (lss3 _ (decide_eq_true (by omega)))) ?_
      simp only [zp]
      refine st_end ?_
      subst hQ
      refine wp_cond_true rfl ?_
      refine wl_in (wl_cap fun Q hQ => ?_)
      refine sm (.int .i64 m) 35 rfl rfl rfl rfl ?_
      simp only [zp]
      refine sm (.int .i64 a) 36 rfl rfl rfl rfl ?_
      simp only [zp]
      refine sg (.int .i64 m) 1 rfl rfl rfl rfl ?_
      simp only [zp]
      refine sg (.int .i64 a) 2 rfl rfl rfl rfl ?_
      simp only [zp]
      refine st_end ?_
      subst hQ
      refine wp_seq ?_
      refine wq fun Q hQ => ?_
      refine sm (.int .i64 m) 37 rfl rfl rfl rfl ?_
      simp only [zp]
      refine sv (.bool false) 38 rfl rfl (ex_bin (u := (.int .i64 m)) (r := (.int .i64 0)) rfl rfl rfl (eg3 _ _ _ _ _ _) (lss3 _ (decide_eq_false (by omega)))) ?_
      simp only [zp]
      refine st_end ?_
      subst hQ
      refine wp_cond_false rfl ?_
      refine wp_skip ?_
      refine wq fun Q hQ => ?_
      refine sv (.agg (PL ⟨0, 0, 0, 0⟩)) 39 rfl rfl (ex_build0  rfl (bPast _)) ?_
      simp only [zp]
      refine sm (.int .i64 a) 40 rfl rfl rfl rfl ?_
      simp only [zp]
      refine sm (.int .i64 c) 41 rfl rfl rfl rfl ?_
      simp only [zp]
      refine sm (.int .i64 t) 42 rfl rfl rfl rfl ?_
      simp only [zp]
      refine st_call (some 43) rfl rfl (schance_any (p := ⟨0, 0, 0, 0⟩) W4 hc t1 t2 (by decide) (by decide) (by decide) (by decide)) (ex_call (f := 17) (vs := [(.agg (PL ⟨0, 0, 0, 0⟩)), (.int .i64 a), (.int .i64 c), (.int .i64 t)]) rfl (cf17 _) rfl) ?_
      rintro e W5 ⟨rfl, B⟩
      refine ⟨_, rfl, ?_⟩
      simp only [zp]
      replace E := below_next E B
      replace k1 := keep B k1
      refine sv (.agg (PL ⟨0, 0, 0, 0⟩)) 44 rfl rfl (ex_build0  rfl (bPast _)) ?_
      simp only [zp]
      refine sm (.int .i64 m) 45 rfl rfl rfl rfl ?_
      simp only [zp]
      refine sm (.int .i64 c) 46 rfl rfl rfl rfl ?_
      simp only [zp]
      refine sm (.int .i64 t) 47 rfl rfl rfl rfl ?_
      simp only [zp]
      refine st_call (some 48) rfl rfl (schance_any (p := ⟨0, 0, 0, 0⟩) W5 hc t1 t2 (by decide) (by decide) (by decide) (by decide)) (ex_call (f := 17) (vs := [(.agg (PL ⟨0, 0, 0, 0⟩)), (.int .i64 m), (.int .i64 c), (.int .i64 t)]) rfl (cf17 _) rfl) ?_
      rintro e W6 ⟨rfl, B⟩
      refine ⟨_, rfl, ?_⟩
      simp only [zp]
      replace E := below_next E B
      replace k1 := keep B k1
      refine sv (.bool true) 49 rfl rfl (ex_bin rfl rfl rfl (egF _ _ _ _ _ _) (leqF _ (pos_le (by rw [ea]; omega) (by rw [em]; omega) (by rw [ea, em]; exact gs_mono (by omega) (by omega) hc)))) ?_
      simp only [zp]
      refine sg (.bool true) 10 rfl rfl rfl rfl ?_
      simp only [zp]
      refine st_end ?_
      subst hQ
      refine wp_ret ?_
      repeat (first | refine ret_out ?_ | refine ret_blk ?_)
      exact bodyPost_ret (results_tmp Try.results6 _ _ _) rfl ⟨rfl, E⟩
  · skip
    by_cases e0 : a < 0
    · skip
      have E : Below w.heap.size w w := Below.refl _ _
      go_enter Try.func6, Try.ntmps6
      refine wq fun Q hQ => ?_
      refine st_new (fun b => .pointer (some ⟨b, 0, none⟩)) (some 5) rfl rfl (ex_box rfl rfl) ?_
      intro b1 W1 k1 g1 B
      simp only [zp]
      have ge_b1 := Nat.le_trans E.size g1
      replace E := below_next E B
      clear B
      refine sg (.bool false) 10 rfl rfl rfl rfl ?_
      simp only [zp]
      refine st_end ?_
      subst hQ
      refine wq fun Q hQ => ?_
      refine sv (.agg (PL p)) 12 rfl rfl (ex_load (p := (.pointer (some ⟨b1, 0, none⟩))) rfl rfl (ld_all k1 Try.underlying23 rfl inf23)) ?_
      simp only [zp]
      refine sm (.int .i64 a) 13 rfl rfl rfl rfl ?_
      simp only [zp]
      refine sm (.int .i64 c) 14 rfl rfl rfl rfl ?_
      simp only [zp]
      refine sm (.int .i64 t) 15 rfl rfl rfl rfl ?_
      simp only [zp]
      refine st_call (some 16) rfl rfl (schance_any (p := p) W1 hc t1 t2 hp.g1 hp.g2 hp.b1 hp.b2) (ex_call (f := 17) (vs := [(.agg (PL p)), (.int .i64 a), (.int .i64 c), (.int .i64 t)]) rfl (cf17 _) rfl) ?_
      rintro e W2 ⟨rfl, B⟩
      refine ⟨_, rfl, ?_⟩
      simp only [zp]
      replace E := below_next E B
      replace k1 := keep B k1
      refine sg (.float .f64 (chN p a c t)) 11 rfl rfl rfl rfl ?_
      simp only [zp]
      refine st_end ?_
      subst hQ
      refine wp_seq ?_
      refine wq fun Q hQ => ?_
      refine st_call (some 17) rfl rfl (lives_any W2) (ex_call (f := 9) (vs := []) rfl (cf9 _) rfl) ?_
      rintro e W3 ⟨rfl, B⟩
      refine ⟨_, rfl, ?_⟩
      simp only [zp]
      replace E := below_next E B
      replace k1 := keep B k1
      refine sv (.bool false) 18 rfl rfl (ex_not rfl rfl rfl) ?_
      simp only [zp]
      refine sm (.bool false) 19 rfl rfl rfl rfl ?_
      simp only [zp]
      refine sm (.float .f64 (chN p a c t)) 20 rfl rfl rfl rfl ?_
      simp only [zp]
      refine sv (.bool true) 21 rfl rfl (ex_bin rfl rfl rfl (egF _ _ _ _ _ _) (geqF _ (pos_ge (by omega) (by decide) (Nat.zero_le _)))) ?_
      simp only [zp]
      refine sm (.bool true) 22 rfl rfl rfl rfl ?_
      simp only [zp]
      refine sm (.float .f64 (chN p a c t)) 23 rfl rfl rfl rfl ?_
      simp only [zp]
      refine sv (.bool true) 24 rfl rfl (ex_bin rfl rfl rfl (egF _ _ _ _ _ _) (leqF _ (pos_le (by omega) (by decide) (by assumption)))) ?_
      simp only [zp]
      refine sv (.bool true) 25 rfl rfl (ex_pkT rfl rfl rfl) ?_
      simp only [zp]
      refine sv (.bool false) 26 rfl rfl (ex_not rfl rfl rfl) ?_
      simp only [zp]
      refine sv (.bool false) 27 rfl rfl (ex_pkF rfl rfl rfl) ?_
      simp only [zp]
      refine sm (.bool false) 28 rfl rfl rfl rfl ?_
      simp only [zp]
      refine sm (.float .f64 (chN p a c t)) 29 rfl rfl rfl rfl ?_
      simp only [zp]
      refine st_call (some 30) rfl rfl (signbit_any (chN p a c t) W3 (by omega)) (ex_call (f := 27) (vs := [(.float .f64 (chN p a c t))]) rfl (cf27 _) rfl) ?_
      rintro e W4 ⟨rfl, B⟩
      refine ⟨_, rfl, ?_⟩
      simp only [zp]
      replace E := below_next E B
      replace k1 := keep B k1
      refine sv (.bool false) 31 rfl rfl (ex_pkF rfl rfl rfl) ?_
      simp only [zp]
      refine st_end ?_
      subst hQ
      refine wp_cond_false rfl ?_
      refine wp_skip ?_
      refine wp_seq ?_
      refine wq fun Q hQ => ?_
      refine sm (.int .i64 m) 32 rfl rfl rfl rfl ?_
      simp only [zp]
      refine sm (.int .i64 a) 33 rfl rfl rfl rfl ?_
      simp only [zp]
      refine sv (.bool false) 34 rfl rfl (ex_bin (u := (.int .i64 m)) (r := (.int .i64 a)) rfl rfl rfl (eg3 _ _ _ _ _ _) (lss3 _ (decide_eq_false (by omega)))) ?_
      simp only [zp]
      refine st_end ?_
      subst hQ
      refine wp_cond_false rfl ?_
      refine wp_skip ?_
      refine wp_seq ?_
      refine wq fun Q hQ => ?_
      refine sm (.int .i64 a) 37 rfl rfl rfl rfl ?_
      simp only [zp]
      refine sv (.bool true) 38 rfl rfl (ex_bin (u := (.int .i64 a)) (r := (.int .i64 0)) rfl rfl rfl (eg3 _ _ _ _ _ _) (lss3 _ (decide_eq_true (by omega)))) ?_
      simp only [zp]
      refine st_end ?_
      subst hQ
      refine wp_cond_true rfl ?_
      refine wq fun Q hQ => ?_
      refine sg (.bool true) 10 rfl rfl rfl rfl ?_
      simp only [zp]
      refine st_end ?_
      subst hQ
      refine wp_ret ?_
      repeat (first | refine ret_out ?_ | refine ret_blk ?_)
      exact bodyPost_ret (results_tmp Try.results6 _ _ _) rfl ⟨rfl, E⟩
    · skip
      have E : Below w.heap.size w w := Below.refl _ _
      go_enter Try.func6, Try.ntmps6
      refine wq fun Q hQ => ?_
      refine st_new (fun b => .pointer (some ⟨b, 0, none⟩)) (some 5) rfl rfl (ex_box rfl rfl) ?_
      intro b1 W1 k1 g1 B
      simp only [zp]
      have ge_b1 := Nat.le_trans E.size g1
      replace E := below_next E B
      clear B
      refine sg (.bool false) 10 rfl rfl rfl rfl ?_
      simp only [zp]
      refine st_end ?_
      subst hQ
      refine wq fun Q hQ => ?_
      refine sv (.agg (PL p)) 12 rfl rfl (ex_load (p := (.pointer (some ⟨b1, 0, none⟩))) rfl rfl (ld_all k1 Try.underlying23 rfl inf23)) ?_
      simp only [zp]
      refine sm (.int .i64 a) 13 rfl rfl rfl rfl ?_
      simp only [zp]
      refine sm (.int .i64 c) 14 rfl rfl rfl rfl ?_
      simp only [zp]
      refine sm (.int .i64 t) 15 rfl rfl rfl rfl ?_
      simp only [zp]
      refine st_call (some 16) rfl rfl (schance_any (p := p) W1 hc t1 t2 hp.g1 hp.g2 hp.b1 hp.b2) (ex_call (f := 17) (vs := [(.agg (PL p)), (.int .i64 a), (.int .i64 c), (.int .i64 t)]) rfl (cf17 _) rfl) ?_
      rintro e W2 ⟨rfl, B⟩
      refine ⟨_, rfl, ?_⟩
      simp only [zp]
      replace E := below_next E B
      replace k1 := keep B k1
      refine sg (.float .f64 (chN p a c t)) 11 rfl rfl rfl rfl ?_
      simp only [zp]
      refine st_end ?_
      subst hQ
      refine wp_seq ?_
      refine wq fun Q hQ => ?_
      refine st_call (some 17) rfl rfl (lives_any W2) (ex_call (f := 9) (vs := []) rfl (cf9 _) rfl) ?_
      rintro e W3 ⟨rfl, B⟩
      refine ⟨_, rfl, ?_⟩
      simp only [zp]
      replace E := below_next E B
      replace k1 := keep B k1
      refine sv (.bool false) 18 rfl rfl (ex_not rfl rfl rfl) ?_
      simp only [zp]
      refine sm (.bool false) 19 rfl rfl rfl rfl ?_
      simp only [zp]
      refine sm (.float .f64 (chN p a c t)) 20 rfl rfl rfl rfl ?_
      simp only [zp]
      refine sv (.bool true) 21 rfl rfl (ex_bin rfl rfl rfl (egF _ _ _ _ _ _) (geqF _ (pos_ge (by omega) (by decide) (Nat.zero_le _)))) ?_
      simp only [zp]
      refine sm (.bool true) 22 rfl rfl rfl rfl ?_
      simp only [zp]
      refine sm (.float .f64 (chN p a c t)) 23 rfl rfl rfl rfl ?_
      simp only [zp]
      refine sv (.bool true) 24 rfl rfl (ex_bin rfl rfl rfl (egF _ _ _ _ _ _) (leqF _ (pos_le (by omega) (by decide) (by assumption)))) ?_
      simp only [zp]
      refine sv (.bool true) 25 rfl rfl (ex_pkT rfl rfl rfl) ?_
      simp only [zp]
      refine sv (.bool false) 26 rfl rfl (ex_not rfl rfl rfl) ?_
      simp only [zp]
      refine sv (.bool false) 27 rfl rfl (ex_pkF rfl rfl rfl) ?_
      simp only [zp]
      refine sm (.bool false) 28 rfl rfl rfl rfl ?_
      simp only [zp]
      refine sm (.float .f64 (chN p a c t)) 29 rfl rfl rfl rfl ?_
      simp only [zp]
      refine st_call (some 30) rfl rfl (signbit_any (chN p a c t) W3 (by omega)) (ex_call (f := 27) (vs := [(.float .f64 (chN p a c t))]) rfl (cf27 _) rfl) ?_
      rintro e W4 ⟨rfl, B⟩
      refine ⟨_, rfl, ?_⟩
      simp only [zp]
      replace E := below_next E B
      replace k1 := keep B k1
      refine sv (.bool false) 31 rfl rfl (ex_pkF rfl rfl rfl) ?_
      simp only [zp]
      refine st_end ?_
      subst hQ
      refine wp_cond_false rfl ?_
      refine wp_skip ?_
      refine wp_seq ?_
      refine wq fun Q hQ => ?_
      refine sm (.int .i64 m) 32 rfl rfl rfl rfl ?_
      simp only [zp]
      refine sm (.int .i64 a) 33 rfl rfl rfl rfl ?_
      simp only [zp]
      refine sv (.bool false) 34 rfl rfl (ex_bin (u := (.int .i64 m)) (r := (.int .i64 a)) rfl rfl rfl (eg3 _ _ _ _ _ _) (lss3 _ (decide_eq_false (by omega)))) ?_
      simp only [zp]
      refine st_end ?_
      subst hQ
      refine wp_cond_false rfl ?_
      refine wp_skip ?_
      refine wp_seq ?_
      refine wq fun Q hQ => ?_
      refine sm (.int .i64 a) 37 rfl rfl rfl rfl ?_
      simp only [zp]
      refine sv (.bool false) 38 rfl rfl (ex_bin (u := (.int .i64 a)) (r := (.int .i64 0)) rfl rfl rfl (eg3 _ _ _ _ _ _) (lss3 _ (decide_eq_false (by omega)))) ?_
      simp only [zp]
      refine st_end ?_
      subst hQ
      refine wp_cond_false rfl ?_
      refine wp_skip ?_
      refine wq fun Q hQ => ?_
      refine sv (.agg (PL ⟨0, 0, 0, 0⟩)) 39 rfl rfl (ex_build0  rfl (bPast _)) ?_
      simp only [zp]
      refine sm (.int .i64 m) 40 rfl rfl rfl rfl ?_
      simp only [zp]
      refine sm (.int .i64 c) 41 rfl rfl rfl rfl ?_
      simp only [zp]
      refine sm (.int .i64 t) 42 rfl rfl rfl rfl ?_
      simp only [zp]
      refine st_call (some 43) rfl rfl (schance_any (p := ⟨0, 0, 0, 0⟩) W4 hc t1 t2 (by decide) (by decide) (by decide) (by decide)) (ex_call (f := 17) (vs := [(.agg (PL ⟨0, 0, 0, 0⟩)), (.int .i64 m), (.int .i64 c), (.int .i64 t)]) rfl (cf17 _) rfl) ?_
      rintro e W5 ⟨rfl, B⟩
      refine ⟨_, rfl, ?_⟩
      simp only [zp]
      replace E := below_next E B
      replace k1 := keep B k1
      refine sv (.agg (PL ⟨0, 0, 0, 0⟩)) 44 rfl rfl (ex_build0  rfl (bPast _)) ?_
      simp only [zp]
      refine sm (.int .i64 a) 45 rfl rfl rfl rfl ?_
      simp only [zp]
      refine sm (.int .i64 c) 46 rfl rfl rfl rfl ?_
      simp only [zp]
      refine sm (.int .i64 t) 47 rfl rfl rfl rfl ?_
      simp only [zp]
      refine st_call (some 48) rfl rfl (schance_any (p := ⟨0, 0, 0, 0⟩) W5 hc t1 t2 (by decide) (by decide) (by decide) (by decide)) (ex_call (f := 17) (vs := [(.agg (PL ⟨0, 0, 0, 0⟩)), (.int .i64 a), (.int .i64 c), (.int .i64 t)]) rfl (cf17 _) rfl) ?_
      rintro e W6 ⟨rfl, B⟩
      refine ⟨_, rfl, ?_⟩
      simp only [zp]
      replace E := below_next E B
      replace k1 := keep B k1
      refine sv (.bool true) 49 rfl rfl (ex_bin rfl rfl rfl (egF _ _ _ _ _ _) (leqF _ (pos_le (by rw [em]; omega) (by rw [ea]; omega) (by rw [em, ea]; exact gs_mono (by omega) (by omega) hc)))) ?_
      simp only [zp]
      refine sg (.bool true) 10 rfl rfl rfl rfl ?_
      simp only [zp]
      refine st_end ?_
      subst hQ
      refine wp_ret ?_
      repeat (first | refine ret_out ?_ | refine ret_blk ?_)
      exact bodyPost_ret (results_tmp Try.results6 _ _ _) rfl ⟨rfl, E⟩
section
variable {a b c : Nat}
theorem ls_self (a : Nat) : lsN a a = false := by
  unfold lsN
  cases h : isN a <;> simp
theorem ls_asym (h : lsN a b = true) : lsN b a = false := by
  unfold lsN at h ⊢
  cases ha : isN a <;> cases hb : isN b <;> simp [ha, hb] at h ⊢
  omega
theorem ls_trans (h1 : lsN a b = true) (h2 : lsN b c = true) : lsN a c = true := by
  unfold lsN at h1 h2 ⊢
  cases ha : isN a <;> cases hb : isN b <;> cases hc : isN c <;> simp [ha, hb, hc] at h1 h2 ⊢
  omega
theorem ls_alike (h1 : lsN a b = false) (h2 : lsN b a = false) : lsN a c = lsN b c ∧ lsN c a = lsN c b := by
  unfold lsN at h1 h2 ⊢
  cases ha : isN a <;> cases hb : isN b <;> cases hc : isN c <;> simp [ha, hb, hc] at h1 h2 ⊢
  have e : key a = key b := by omega
  rw [e]
  exact ⟨Iff.rfl, Iff.rfl⟩
end
set_option maxHeartbeats 8000000 in
theorem orders_any (a b c : Nat) (w : World) : Calls Try.prog 7 #[.float .f64 a, .float .f64 b, .float .f64 c] w fun e w' => e = .returned (.bool true) ∧ Below w.heap.size w w' := by
  cases ab : lsN a b with
  | true =>
    have ba := ls_asym ab
    cases bc : lsN b c with
    | true =>
      have ac := ls_trans ab bc
      have E : Below w.heap.size w w := Below.refl _ _
      go_enter Try.func7, Try.ntmps7
      refine wq fun Q hQ => ?_
      refine sg (.bool false) 6 rfl rfl rfl rfl ?_
      simp only [zp]
      refine st_end ?_
      subst hQ
      refine wp_seq ?_
      refine wq fun Q hQ => ?_
      refine st_call (some 8) rfl rfl (lives_any w) (ex_call (f := 9) (vs := []) rfl (cf9 _) rfl) ?_
      rintro e W1 ⟨rfl, B⟩
      refine ⟨_, rfl, ?_⟩
      simp only [zp]
      replace E := below_next E B
      refine sv (.bool false) 9 rfl rfl (ex_not rfl rfl rfl) ?_
      simp only [zp]
      refine sm (.bool false) 10 rfl rfl rfl rfl ?_
      simp only [zp]
      refine sm (.float .f64 a) 11 rfl rfl rfl rfl ?_
      simp only [zp]
      refine sm (.float .f64 a) 12 rfl rfl rfl rfl ?_
      simp only [zp]
      refine st_call (some 13) rfl rfl (sless_any a a W1 (ls_self a)) (ex_call (f := 23) (vs := [(.float .f64 a), (.float .f64 a)]) rfl (cf23 _) rfl) ?_
      rintro e W2 ⟨rfl, B⟩
      refine ⟨_, rfl, ?_⟩
      simp only [zp]
      replace E := below_next E B
      refine sv (.bool false) 14 rfl rfl (ex_pkF rfl rfl rfl) ?_
      simp only [zp]
      refine sm (.bool false) 15 rfl rfl rfl rfl ?_
      simp only [zp]
      refine sm (.float .f64 a) 16 rfl rfl rfl rfl ?_
      simp only [zp]
      refine sm (.float .f64 b) 17 rfl rfl rfl rfl ?_
      simp only [zp]
      refine st_call (some 18) rfl rfl (sless_any a b W2 ab) (ex_call (f := 23) (vs := [(.float .f64 a), (.float .f64 b)]) rfl (cf23 _) rfl) ?_
      rintro e W3 ⟨rfl, B⟩
      refine ⟨_, rfl, ?_⟩
      simp only [zp]
      replace E := below_next E B
      refine sm (.bool true) 19 rfl rfl rfl rfl ?_
      simp only [zp]
      refine sm (.float .f64 b) 20 rfl rfl rfl rfl ?_
      simp only [zp]
      refine sm (.float .f64 a) 21 rfl rfl rfl rfl ?_
      simp only [zp]
      refine st_call (some 22) rfl rfl (sless_any b a W3 ba) (ex_call (f := 23) (vs := [(.float .f64 b), (.float .f64 a)]) rfl (cf23 _) rfl) ?_
      rintro e W4 ⟨rfl, B⟩
      refine ⟨_, rfl, ?_⟩
      simp only [zp]
      replace E := below_next E B
      refine sv (.bool false) 23 rfl rfl (ex_pkT rfl rfl rfl) ?_
      simp only [zp]
      refine sv (.bool false) 24 rfl rfl (ex_pkF rfl rfl rfl) ?_
      simp only [zp]
      refine sm (.bool false) 25 rfl rfl rfl rfl ?_
      simp only [zp]
      refine sm (.float .f64 a) 26 rfl rfl rfl rfl ?_
      simp only [zp]
      refine sm (.float .f64 b) 27 rfl rfl rfl rfl ?_
      simp only [zp]
      refine st_call (some 28) rfl rfl (sless_any a b W4 ab) (ex_call (f := 23) (vs := [(.float .f64 a), (.float .f64 b)]) rfl (cf23 _) rfl) ?_
      rintro e W5 ⟨rfl, B⟩
      refine ⟨_, rfl, ?_⟩
      simp only [zp]
      replace E := below_next E B
      refine sm (.bool true) 29 rfl rfl rfl rfl ?_
      simp only [zp]
      refine sm (.float .f64 b) 30 rfl rfl rfl rfl ?_
      simp only [zp]
      refine sm (.float .f64 c) 31 rfl rfl rfl rfl ?_
      simp only [zp]
      refine st_call (some 32) rfl rfl (sless_any b c W5 bc) (ex_call (f := 23) (vs := [(.float .f64 b), (.float .f64 c)]) rfl (cf23 _) rfl) ?_
      rintro e W6 ⟨rfl, B⟩
      refine ⟨_, rfl, ?_⟩
      simp only [zp]
      replace E := below_next E B
      refine sv (.bool true) 33 rfl rfl (ex_pkT rfl rfl rfl) ?_
      simp only [zp]
      refine sm (.bool true) 34 rfl rfl rfl rfl ?_
      simp only [zp]
      refine sm (.float .f64 a) 35 rfl rfl rfl rfl ?_
      simp only [zp]
      refine sm (.float .f64 c) 36 rfl rfl rfl rfl ?_
      simp only [zp]
      refine st_call (some 37) rfl rfl (sless_any a c W6 ac) (ex_call (f := 23) (vs := [(.float .f64 a), (.float .f64 c)]) rfl (cf23 _) rfl) ?_
      rintro e W7 ⟨rfl, B⟩
      refine ⟨_, rfl, ?_⟩
      simp only [zp]
      replace E := below_next E B
      refine sv (.bool false) 38 rfl rfl (ex_not rfl rfl rfl) ?_
      simp only [zp]
      refine sv (.bool false) 39 rfl rfl (ex_pkT rfl rfl rfl) ?_
      simp only [zp]
      refine sv (.bool false) 40 rfl rfl (ex_pkF rfl rfl rfl) ?_
      simp only [zp]
      refine st_end ?_
      subst hQ
      refine wp_cond_false rfl ?_
      refine wp_skip ?_
      refine wq fun Q hQ => ?_
      refine sm (.float .f64 a) 41 rfl rfl rfl rfl ?_
      simp only [zp]
      refine sm (.float .f64 b) 42 rfl rfl rfl rfl ?_
      simp only [zp]
      refine st_call (some 43) rfl rfl (sless_any a b W7 ab) (ex_call (f := 23) (vs := [(.float .f64 a), (.float .f64 b)]) rfl (cf23 _) rfl) ?_
      rintro e W8 ⟨rfl, B⟩
      refine ⟨_, rfl, ?_⟩
      simp only [zp]
      replace E := below_next E B
      refine sv (.bool false) 44 rfl rfl (ex_not rfl rfl rfl) ?_
      simp only [zp]
      refine sm (.bool false) 45 rfl rfl rfl rfl ?_
      simp only [zp]
      refine sn 46 rfl rfl ?_
      simp only [zp]
      refine sn 47 rfl rfl ?_
      simp only [zp]
      refine sn 48 rfl rfl ?_
      simp only [zp]
      refine sn 49 rfl rfl ?_
      simp only [zp]
      refine sv (.bool false) 50 rfl rfl (ex_pkF rfl rfl rfl) ?_
      simp only [zp]
      refine sg (.bool false) 7 rfl rfl rfl rfl ?_
      simp only [zp]
      refine st_end ?_
      subst hQ
      refine wq fun Q hQ => ?_
      refine sm (.bool false) 51 rfl rfl rfl rfl ?_
      simp only [zp]
      refine sv (.bool true) 52 rfl rfl (ex_not rfl rfl rfl) ?_
      simp only [zp]
      refine sm (.bool true) 53 rfl rfl rfl rfl ?_
      simp only [zp]
      refine sn 54 rfl rfl ?_
      simp only [zp]
      refine sn 55 rfl rfl ?_
      simp only [zp]
      refine sn 56 rfl rfl ?_
      simp only [zp]
      refine sn 57 rfl rfl ?_
      simp only [zp]
      refine sn 58 rfl rfl ?_
      simp only [zp]
      refine sn 59 rfl rfl ?_
      simp only [zp]
      refine sn 60 rfl rfl ?_
      simp only [zp]
      refine sn 61 rfl rfl ?_
      simp only [zp]
      refine sn 62 rfl rfl ?_
      simp only [zp]
      refine sn 63 rfl rfl ?_
      simp only [zp]
      refine sn 64 rfl rfl ?_
      simp only [zp]
      refine sn 65 rfl rfl ?_
      simp only [zp]
      refine sn 66 rfl rfl ?_
      simp only [zp]
      refine sn 67 rfl rfl ?_
      simp only [zp]
      refine sn 68 rfl rfl ?_
      simp only [zp]
      refine sn 69 rfl rfl ?_
      simp only [zp]
      refine sv (.bool true) 70 rfl rfl (ex_pkT rfl rfl rfl) ?_
      simp only [zp]
      refine sg (.bool true) 6 rfl rfl rfl rfl ?_
      simp only [zp]
      refine st_end ?_
      subst hQ
      refine wp_ret ?_
      repeat (first | refine ret_out ?_ | refine ret_blk ?_)
      exact bodyPost_ret (results_tmp Try.results7 _ _ _) rfl ⟨rfl, E⟩
    | false =>
      have E : Below w.heap.size w w := Below.refl _ _
      go_enter Try.func7, Try.ntmps7
      refine wq fun Q hQ => ?_
      refine sg (.bool false) 6 rfl rfl rfl rfl ?_
      simp only [zp]
      refine st_end ?_
      subst hQ
      refine wp_seq ?_
      refine wq fun Q hQ => ?_
      refine st_call (some 8) rfl rfl (lives_any w) (ex_call (f := 9) (vs := []) rfl (cf9 _) rfl) ?_
      rintro e W1 ⟨rfl, B⟩
      refine ⟨_, rfl, ?_⟩
      simp only [zp]
      replace E := below_next E B
      refine sv (.bool false) 9 rfl rfl (ex_not rfl rfl rfl) ?_
      simp only [zp]
      refine sm (.bool false) 10 rfl rfl rfl rfl ?_
      simp only [zp]
      refine sm (.float .f64 a) 11 rfl rfl rfl rfl ?_
      simp only [zp]
      refine sm (.float .f64 a) 12 rfl rfl rfl rfl ?_
      simp only [zp]
      refine st_call (some 13) rfl rfl (sless_any a a W1 (ls_self a)) (ex_call (f := 23) (vs := [(.float .f64 a), (.float .f64 a)]) rfl (cf23 _) rfl) ?_
      rintro e W2 ⟨rfl, B⟩
      refine ⟨_, rfl, ?_⟩
      simp only [zp]
      replace E := below_next E B
      refine sv (.bool false) 14 rfl rfl (ex_pkF rfl rfl rfl) ?_
      simp only [zp]
      refine sm (.bool false) 15 rfl rfl rfl rfl ?_
      simp only [zp]
      refine sm (.float .f64 a) 16 rfl rfl rfl rfl ?_
      simp only [zp]
      refine sm (.float .f64 b) 17 rfl rfl rfl rfl ?_
      simp only [zp]
      refine st_call (some 18) rfl rfl (sless_any a b W2 ab) (ex_call (f := 23) (vs := [(.float .f64 a), (.float .f64 b)]) rfl (cf23 _) rfl) ?_
      rintro e W3 ⟨rfl, B⟩
      refine ⟨_, rfl, ?_⟩
      simp only [zp]
      replace E := below_next E B
      refine sm (.bool true) 19 rfl rfl rfl rfl ?_
      simp only [zp]
      refine sm (.float .f64 b) 20 rfl rfl rfl rfl ?_
      simp only [zp]
      refine sm (.float .f64 a) 21 rfl rfl rfl rfl ?_
      simp only [zp]
      refine st_call (some 22) rfl rfl (sless_any b a W3 ba) (ex_call (f := 23) (vs := [(.float .f64 b), (.float .f64 a)]) rfl (cf23 _) rfl) ?_
      rintro e W4 ⟨rfl, B⟩
      refine ⟨_, rfl, ?_⟩
      simp only [zp]
      replace E := below_next E B
      refine sv (.bool false) 23 rfl rfl (ex_pkT rfl rfl rfl) ?_
      simp only [zp]
      refine sv (.bool false) 24 rfl rfl (ex_pkF rfl rfl rfl) ?_
      simp only [zp]
      refine sm (.bool false) 25 rfl rfl rfl rfl ?_
      simp only [zp]
      refine sm (.float .f64 a) 26 rfl rfl rfl rfl ?_
      simp only [zp]
      refine sm (.float .f64 b) 27 rfl rfl rfl rfl ?_
      simp only [zp]
      refine st_call (some 28) rfl rfl (sless_any a b W4 ab) (ex_call (f := 23) (vs := [(.float .f64 a), (.float .f64 b)]) rfl (cf23 _) rfl) ?_
      rintro e W5 ⟨rfl, B⟩
      refine ⟨_, rfl, ?_⟩
      simp only [zp]
      replace E := below_next E B
      refine sm (.bool true) 29 rfl rfl rfl rfl ?_
      simp only [zp]
      refine sm (.float .f64 b) 30 rfl rfl rfl rfl ?_
      simp only [zp]
      refine sm (.float .f64 c) 31 rfl rfl rfl rfl ?_
      simp only [zp]
      refine st_call (some 32) rfl rfl (sless_any b c W5 bc) (ex_call (f := 23) (vs := [(.float .f64 b), (.float .f64 c)]) rfl (cf23 _) rfl) ?_
      rintro e W6 ⟨rfl, B⟩
      refine ⟨_, rfl, ?_⟩
      simp only [zp]
      replace E := below_next E B
      refine sv (.bool false) 33 rfl rfl (ex_pkT rfl rfl rfl) ?_
      simp only [zp]
      refine sm (.bool false) 34 rfl rfl rfl rfl ?_
      simp only [zp]
      refine sn 35 rfl rfl ?_
      simp only [zp]
      refine sn 36 rfl rfl ?_
      simp only [zp]
      refine sn 37 rfl rfl ?_
      simp only [zp]
      refine sn 38 rfl rfl ?_
      simp only [zp]
      refine sv (.bool false) 39 rfl rfl (ex_pkF rfl rfl rfl) ?_
      simp only [zp]
      refine sv (.bool false) 40 rfl rfl (ex_pkF rfl rfl rfl) ?_
      simp only [zp]
      refine st_end ?_
      subst hQ
      refine wp_cond_false rfl ?_
      refine wp_skip ?_
      refine wq fun Q hQ => ?_
      refine sm (.float .f64 a) 41 rfl rfl rfl rfl ?_
      simp only [zp]
      refine sm (.float .f64 b) 42 rfl rfl rfl rfl ?_
      simp only [zp]
      refine st_call (some 43) rfl rfl (sless_any a b W6 ab) (ex_call (f := 23) (vs := [(.float .f64 a), (.float .f64 b)]) rfl (cf23 _) rfl) ?_
      rintro e W7 ⟨rfl, B⟩
      refine ⟨_, rfl, ?_⟩
      simp only [zp]
      replace E := below_next E B
      refine sv (.bool false) 44 rfl rfl (ex_not rfl rfl rfl) ?_
      simp only [zp]
      refine sm (.bool false) 45 rfl rfl rfl rfl ?_
      simp only [zp]
      refine sn 46 rfl rfl ?_
      simp only [zp]
      refine sn 47 rfl rfl ?_
      simp only [zp]
      refine sn 48 rfl rfl ?_
      simp only [zp]
      refine sn 49 rfl rfl ?_
      simp only [zp]
      refine sv (.bool false) 50 rfl rfl (ex_pkF rfl rfl rfl) ?_
      simp only [zp]
      refine sg (.bool false) 7 rfl rfl rfl rfl ?_
      simp only [zp]
      refine st_end ?_
      subst hQ
      refine wq fun Q hQ => ?_
      refine sm (.bool false) 51 rfl rfl rfl rfl ?_
      simp only [zp]
      refine sv (.bool true) 52 rfl rfl (ex_not rfl rfl rfl) ?_
      simp only [zp]
      refine sm (.bool true) 53 rfl rfl rfl rfl ?_
      simp only [zp]
      refine sn 54 rfl rfl ?_
      simp only [zp]
      refine sn 55 rfl rfl ?_
      simp only [zp]
      refine sn 56 rfl rfl ?_
      simp only [zp]
      refine sn 57 rfl rfl ?_
      simp only [zp]
      refine sn 58 rfl rfl ?_
      simp only [zp]
      refine sn 59 rfl rfl ?_
      simp only [zp]
      refine sn 60 rfl rfl ?_
      simp only [zp]
      refine sn 61 rfl rfl ?_
      simp only [zp]
      refine sn 62 rfl rfl ?_
      simp only [zp]
      refine sn 63 rfl rfl ?_
      simp only [zp]
      refine sn 64 rfl rfl ?_
      simp only [zp]
      refine sn 65 rfl rfl ?_
      simp only [zp]
      refine sn 66 rfl rfl ?_
      simp only [zp]
      refine sn 67 rfl rfl ?_
      simp only [zp]
      refine sn 68 rfl rfl ?_
      simp only [zp]
      refine sn 69 rfl rfl ?_
      simp only [zp]
      refine sv (.bool true) 70 rfl rfl (ex_pkT rfl rfl rfl) ?_
      simp only [zp]
      refine sg (.bool true) 6 rfl rfl rfl rfl ?_
      simp only [zp]
      refine st_end ?_
      subst hQ
      refine wp_ret ?_
      repeat (first | refine ret_out ?_ | refine ret_blk ?_)
      exact bodyPost_ret (results_tmp Try.results7 _ _ _) rfl ⟨rfl, E⟩
  | false =>
    cases ba : lsN b a with
    | true =>
      have E : Below w.heap.size w w := Below.refl _ _
      go_enter Try.func7, Try.ntmps7
      refine wq fun Q hQ => ?_
      refine sg (.bool false) 6 rfl rfl rfl rfl ?_
      simp only [zp]
      refine st_end ?_
      subst hQ
      refine wp_seq ?_
      refine wq fun Q hQ => ?_
      refine st_call (some 8) rfl rfl (lives_any w) (ex_call (f := 9) (vs := []) rfl (cf9 _) rfl) ?_
      rintro e W1 ⟨rfl, B⟩
      refine ⟨_, rfl, ?_⟩
      simp only [zp]
      replace E := below_next E B
      refine sv (.bool false) 9 rfl rfl (ex_not rfl rfl rfl) ?_
      simp only [zp]
      refine sm (.bool false) 10 rfl rfl rfl rfl ?_
      simp only [zp]
      refine sm (.float .f64 a) 11 rfl rfl rfl rfl ?_
      simp only [zp]
      refine sm (.float .f64 a) 12 rfl rfl rfl rfl ?_
      simp only [zp]
      refine st_call (some 13) rfl rfl (sless_any a a W1 (ls_self a)) (ex_call (f := 23) (vs := [(.float .f64 a), (.float .f64 a)]) rfl (cf23 _) rfl) ?_
      rintro e W2 ⟨rfl, B⟩
      refine ⟨_, rfl, ?_⟩
      simp only [zp]
      replace E := below_next E B
      refine sv (.bool false) 14 rfl rfl (ex_pkF rfl rfl rfl) ?_
      simp only [zp]
      refine sm (.bool false) 15 rfl rfl rfl rfl ?_
      simp only [zp]
      refine sm (.float .f64 a) 16 rfl rfl rfl rfl ?_
      simp only [zp]
      refine sm (.float .f64 b) 17 rfl rfl rfl rfl ?_
      simp only [zp]
      refine st_call (some 18) rfl rfl (sless_any a b W2 ab) (ex_call (f := 23) (vs := [(.float .f64 a), (.float .f64 b)]) rfl (cf23 _) rfl) ?_
      rintro e W3 ⟨rfl, B⟩
      refine ⟨_, rfl, ?_⟩
      simp only [zp]
      replace E := below_next E B
      refine sm (.bool false) 19 rfl rfl rfl rfl ?_
      simp only [zp]
      refine sn 20 rfl rfl ?_
      simp only [zp]
      refine sn 21 rfl rfl ?_
      simp only [zp]
      refine sn 22 rfl rfl ?_
      simp only [zp]
      refine sv (.bool false) 23 rfl rfl (ex_pkF rfl rfl rfl) ?_
      simp only [zp]
      refine sv (.bool false) 24 rfl rfl (ex_pkF rfl rfl rfl) ?_
      simp only [zp]
      refine sm (.bool false) 25 rfl rfl rfl rfl ?_
      simp only [zp]
      refine sm (.float .f64 a) 26 rfl rfl rfl rfl ?_
      simp only [zp]
      refine sm (.float .f64 b) 27 rfl rfl rfl rfl ?_
      simp only [zp]
      refine st_call (some 28) rfl rfl (sless_any a b W3 ab) (ex_call (f := 23) (vs := [(.float .f64 a), (.float .f64 b)]) rfl (cf23 _) rfl) ?_
      rintro e W4 ⟨rfl, B⟩
      refine ⟨_, rfl, ?_⟩
      simp only [zp]
      replace E := below_next E B
      refine sm (.bool false) 29 rfl rfl rfl rfl ?_
      simp only [zp]
      refine sn 30 rfl rfl ?_
      simp only [zp]
      refine sn 31 rfl rfl ?_
      simp only [zp]
      refine sn 32 rfl rfl ?_
      simp only [zp]
      refine sv (.bool false) 33 rfl rfl (ex_pkF rfl rfl rfl) ?_
      simp only [zp]
      refine sm (.bool false) 34 rfl rfl rfl rfl ?_
      simp only [zp]
      refine sn 35 rfl rfl ?_
      simp only [zp]
      refine sn 36 rfl rfl ?_
      simp only [zp]
      refine sn 37 rfl rfl ?_
      simp only [zp]
      refine sn 38 rfl rfl ?_
      simp only [zp]
      refine sv (.bool false) 39 rfl rfl (ex_pkF rfl rfl rfl) ?_
      simp only [zp]
      refine sv (.bool false) 40 rfl rfl (ex_pkF rfl rfl rfl) ?_
      simp only [zp]
      refine st_end ?_
      subst hQ
      refine wp_cond_false rfl ?_
      refine wp_skip ?_
      refine wq fun Q hQ => ?_
      refine sm (.float .f64 a) 41 rfl rfl rfl rfl ?_
      simp only [zp]
      refine sm (.float .f64 b) 42 rfl rfl rfl rfl ?_
      simp only [zp]
      refine st_call (some 43) rfl rfl (sless_any a b W4 ab) (ex_call (f := 23) (vs := [(.float .f64 a), (.float .f64 b)]) rfl (cf23 _) rfl) ?_
      rintro e W5 ⟨rfl, B⟩
      refine ⟨_, rfl, ?_⟩
      simp only [zp]
      replace E := below_next E B
      refine sv (.bool true) 44 rfl rfl (ex_not rfl rfl rfl) ?_
      simp only [zp]
      refine sm (.bool true) 45 rfl rfl rfl rfl ?_
      simp only [zp]
      refine sm (.float .f64 b) 46 rfl rfl rfl rfl ?_
      simp only [zp]
      refine sm (.float .f64 a) 47 rfl rfl rfl rfl ?_
      simp only [zp]
      refine st_call (some 48) rfl rfl (sless_any b a W5 ba) (ex_call (f := 23) (vs := [(.float .f64 b), (.float .f64 a)]) rfl (cf23 _) rfl) ?_
      rintro e W6 ⟨rfl, B⟩
      refine ⟨_, rfl, ?_⟩
      simp only [zp]
      replace E := below_next E B
      refine sv (.bool false) 49 rfl rfl (ex_not rfl rfl rfl) ?_
      simp only [zp]
      refine sv (.bool false) 50 rfl rfl (ex_pkT rfl rfl rfl) ?_
      simp only [zp]
      refine sg (.bool false) 7 rfl rfl rfl rfl ?_
      simp only [zp]
      refine st_end ?_
      subst hQ
      refine wq fun Q hQ => ?_
      refine sm (.bool false) 51 rfl rfl rfl rfl ?_
      simp only [zp]
      refine sv (.bool true) 52 rfl rfl (ex_not rfl rfl rfl) ?_
      simp only [zp]
      refine sm (.bool true) 53 rfl rfl rfl rfl ?_
      simp only [zp]
      refine sn 54 rfl rfl ?_
      simp only [zp]
      refine sn 55 rfl rfl ?_
      simp only [zp]
      refine sn 56 rfl rfl ?_
      simp only [zp]
      refine sn 57 rfl rfl ?_
      simp only [zp]
      refine sn 58 rfl rfl ?_
      simp only [zp]
      refine sn 59 rfl rfl ?_
      simp only [zp]
      refine sn 60 rfl rfl ?_
      simp only [zp]
      refine sn 61 rfl rfl ?_
      simp only [zp]
      refine sn 62 rfl rfl ?_
      simp only [zp]
      refine sn 63 rfl rfl ?_
      simp only [zp]
      refine sn 64 rfl rfl ?_
      simp only [zp]
      refine sn 65 rfl rfl ?_
      simp only [zp]
      refine sn 66 rfl rfl ?_
      simp only [zp]
      refine sn 67 rfl rfl ?_
      simp only [zp]
      refine sn 68 rfl rfl ?_
      simp only [zp]
      refine sn 69 rfl rfl ?_
      simp only [zp]
      refine sv (.bool true) 70 rfl rfl (ex_pkT rfl rfl rfl) ?_
      simp only [zp]
      refine sg (.bool true) 6 rfl rfl rfl rfl ?_
      simp only [zp]
      refine st_end ?_
      subst hQ
      refine wp_ret ?_
      repeat (first | refine ret_out ?_ | refine ret_blk ?_)
      exact bodyPost_ret (results_tmp Try.results7 _ _ _) rfl ⟨rfl, E⟩
    | false =>
      obtain ⟨q1, q2⟩ := ls_alike (c := c) ab ba
      cases ac : lsN a c with
      | true =>
        have bc := q1.symm.trans ac
        cases ca : lsN c a with
        | true =>
          have cb := q2.symm.trans ca
          have E : Below w.heap.size w w := Below.refl _ _
          go_enter Try.func7, Try.ntmps7
          refine wq fun Q hQ => ?_
          refine sg (.bool false) 6 rfl rfl rfl rfl ?_
          simp only [zp]
          refine st_end ?_
          subst hQ
          refine wp_seq ?_
          refine wq fun Q hQ => ?_
          refine st_call (some 8) rfl rfl (lives_any w) (ex_call (f := 9) (vs := []) rfl (cf9 _) rfl) ?_
          rintro e W1 ⟨rfl, B⟩
          refine ⟨_, rfl, ?_⟩
          simp only [zp]
          replace E := below_next E B
          refine sv (.bool false) 9 rfl rfl (ex_not rfl rfl rfl) ?_
          simp only [zp]
          refine sm (.bool false) 10 rfl rfl rfl rfl ?_
          simp only [zp]
          refine sm (.float .f64 a) 11 rfl rfl rfl rfl ?_
          simp only [zp]
          refine sm (.float .f64 a) 12 rfl rfl rfl rfl ?_
          simp only [zp]
          refine st_call (some 13) rfl rfl (sless_any a a W1 (ls_self a)) (ex_call (f := 23) (vs := [(.float .f64 a), (.float .f64 a)]) rfl (cf23 _) rfl) ?_
          rintro e W2 ⟨rfl, B⟩
          refine ⟨_, rfl, ?_⟩
          simp only [zp]
          replace E := below_next E B
          refine sv (.bool false) 14 rfl rfl (ex_pkF rfl rfl rfl) ?_
          simp only [zp]
          refine sm (.bool false) 15 rfl rfl rfl rfl ?_
          simp only [zp]
          refine sm (.float .f64 a) 16 rfl rfl rfl rfl ?_
          simp only [zp]
          refine sm (.float .f64 b) 17 rfl rfl rfl rfl ?_
          simp only [zp]
          refine st_call (some 18) rfl rfl (sless_any a b W2 ab) (ex_call (f := 23) (vs := [(.float .f64 a), (.float .f64 b)]) rfl (cf23 _) rfl) ?_
          rintro e W3 ⟨rfl, B⟩
          refine ⟨_, rfl, ?_⟩
          simp only [zp]
          replace E := below_next E B
          refine sm (.bool false) 19 rfl rfl rfl rfl ?_
          simp only [zp]
          refine sn 20 rfl rfl ?_
          simp only [zp]
          refine sn 21 rfl rfl ?_
          simp only [zp]
          refine sn 22 rfl rfl ?_
          simp only [zp]
          refine sv (.bool false) 23 rfl rfl (ex_pkF rfl rfl rfl) ?_
          simp only [zp]
          refine sv (.bool false) 24 rfl rfl (ex_pkF rfl rfl rfl) ?_
          simp only [zp]
          refine sm (.bool false) 25 rfl rfl rfl rfl ?_
          simp only [zp]
          refine sm (.float .f64 a) 26 rfl rfl rfl rfl ?_
          simp only [zp]
          refine sm (.float .f64 b) 27 rfl rfl rfl rfl ?_
          simp only [zp]
          refine st_call (some 28) rfl rfl (sless_any a b W3 ab) (ex_call (f := 23) (vs := [(.float .f64 a), (.float .f64 b)]) rfl (cf23 _) rfl) ?_
          rintro e W4 ⟨rfl, B⟩
          refine ⟨_, rfl, ?_⟩
          simp only [zp]
          replace E := below_next E B
          refine sm (.bool false) 29 rfl rfl rfl rfl ?_
          simp only [zp]
          refine sn 30 rfl rfl ?_
          simp only [zp]
          refine sn 31 rfl rfl ?_
          simp only [zp]
          refine sn 32 rfl rfl ?_
          simp only [zp]
          refine sv (.bool false) 33 rfl rfl (ex_pkF rfl rfl rfl) ?_
          simp only [zp]
          refine sm (.bool false) 34 rfl rfl rfl rfl ?_
          simp only [zp]
          refine sn 35 rfl rfl ?_
          simp only [zp]
          refine sn 36 rfl rfl ?_
          simp only [zp]
          refine sn 37 rfl rfl ?_
          simp only [zp]
          refine sn 38 rfl rfl ?_
          simp only [zp]
          refine sv (.bool false) 39 rfl rfl (ex_pkF rfl rfl rfl) ?_
          simp only [zp]
          refine sv (.bool false) 40 rfl rfl (ex_pkF rfl rfl rfl) ?_
          simp only [zp]
          refine st_end ?_
          subst hQ
          refine wp_cond_false rfl ?_
          refine wp_skip ?_
          refine wq fun Q hQ => ?_
          refine sm (.float .f64 a) 41 rfl rfl rfl rfl ?_
          simp only [zp]
          refine sm (.float .f64 b) 42 rfl rfl rfl rfl ?_
          simp only [zp]
          refine st_call (some 43) rfl rfl (sless_any a b W4 ab) (ex_call (f := 23) (vs := [(.float .f64 a), (.float .f64 b)]) rfl (cf23 _) rfl) ?_
          rintro e W5 ⟨rfl, B⟩
          refine ⟨_, rfl, ?_⟩
          simp only [zp]
          replace E := below_next E B
          refine sv (.bool true) 44 rfl rfl (ex_not rfl rfl rfl) ?_
          simp only [zp]
          refine sm (.bool true) 45 rfl rfl rfl rfl ?_
          simp only [zp]
          refine sm (.float .f64 b) 46 rfl rfl rfl rfl ?_
          simp only [zp]
          refine sm (.float .f64 a) 47 rfl rfl rfl rfl ?_
          simp only [zp]
          refine st_call (some 48) rfl rfl (sless_any b a W5 ba) (ex_call (f := 23) (vs := [(.float .f64 b), (.float .f64 a)]) rfl (cf23 _) rfl) ?_
          rintro e W6 ⟨rfl, B⟩
          refine ⟨_, rfl, ?_⟩
          simp only [zp]
          replace E := below_next E B
          refine sv (.bool true) 49 rfl rfl (ex_not rfl rfl rfl) ?_
          simp only [zp]
          refine sv (.bool true) 50 rfl rfl (ex_pkT rfl rfl rfl) ?_
          simp only [zp]
          refine sg (.bool true) 7 rfl rfl rfl rfl ?_
          simp only [zp]
          refine st_end ?_
          subst hQ
          refine wq fun Q hQ => ?_
          refine sm (.bool true) 51 rfl rfl rfl rfl ?_
          simp only [zp]
          refine sv (.bool false) 52 rfl rfl (ex_not rfl rfl rfl) ?_
          simp only [zp]
          refine sm (.bool false) 53 rfl rfl rfl rfl ?_
          simp only [zp]
          refine sm (.float .f64 a) 54 rfl rfl rfl rfl ?_
          simp only [zp]
          refine sm (.float .f64 c) 55 rfl rfl rfl rfl ?_
          simp only [zp]
          refine st_call (some 56) rfl rfl (sless_any a c W6 ac) (ex_call (f := 23) (vs := [(.float .f64 a), (.float .f64 c)]) rfl (cf23 _) rfl) ?_
          rintro e W7 ⟨rfl, B⟩
          refine ⟨_, rfl, ?_⟩
          simp only [zp]
          replace E := below_next E B
          refine sm (.float .f64 b) 57 rfl rfl rfl rfl ?_
          simp only [zp]
          refine sm (.float .f64 c) 58 rfl rfl rfl rfl ?_
          simp only [zp]
          refine st_call (some 59) rfl rfl (sless_any b c W7 bc) (ex_call (f := 23) (vs := [(.float .f64 b), (.float .f64 c)]) rfl (cf23 _) rfl) ?_
          rintro e W8 ⟨rfl, B⟩
          refine ⟨_, rfl, ?_⟩
          simp only [zp]
          replace E := below_next E B
          refine sv (.bool true) 60 rfl rfl (ex_bin (u := (.bool true)) (r := (.bool true)) rfl rfl rfl (eg4 _ _ _ _ _ _) (eql4 _ (beq_self_eq_true _))) ?_
          simp only [zp]
          refine sm (.bool true) 61 rfl rfl rfl rfl ?_
          simp only [zp]
          refine sm (.float .f64 c) 62 rfl rfl rfl rfl ?_
          simp only [zp]
          refine sm (.float .f64 a) 63 rfl rfl rfl rfl ?_
          simp only [zp]
          refine st_call (some 64) rfl rfl (sless_any c a W8 ca) (ex_call (f := 23) (vs := [(.float .f64 c), (.float .f64 a)]) rfl (cf23 _) rfl) ?_
          rintro e W9 ⟨rfl, B⟩
          refine ⟨_, rfl, ?_⟩
          simp only [zp]
          replace E := below_next E B
          refine sm (.float .f64 c) 65 rfl rfl rfl rfl ?_
          simp only [zp]
          refine sm (.float .f64 b) 66 rfl rfl rfl rfl ?_
          simp only [zp]
          refine st_call (some 67) rfl rfl (sless_any c b W9 cb) (ex_call (f := 23) (vs := [(.float .f64 c), (.float .f64 b)]) rfl (cf23 _) rfl) ?_
          rintro e W10 ⟨rfl, B⟩
          refine ⟨_, rfl, ?_⟩
          simp only [zp]
          replace E := below_next E B
          refine sv (.bool true) 68 rfl rfl (ex_bin (u := (.bool true)) (r := (.bool true)) rfl rfl rfl (eg4 _ _ _ _ _ _) (eql4 _ (beq_self_eq_true _))) ?_
          simp only [zp]
          refine sv (.bool true) 69 rfl rfl (ex_pkT rfl rfl rfl) ?_
          simp only [zp]
          refine sv (.bool true) 70 rfl rfl (ex_pkF rfl rfl rfl) ?_
          simp only [zp]
          refine sg (.bool true) 6 rfl rfl rfl rfl ?_
          simp only [zp]
          refine st_end ?_
          subst hQ
          refine wp_ret ?_
          repeat (first | refine ret_out ?_ | refine ret_blk ?_)
          exact bodyPost_ret (results_tmp Try.results7 _ _ _) rfl ⟨rfl, E⟩
        
        | false =>
          have cb := q2.symm.trans ca
          have E : Below w.heap.size w w := Below.refl _ _
          go_enter Try.func7, Try.ntmps7
          refine wq fun Q hQ => ?_
          refine sg (.bool false) 6 rfl rfl rfl rfl ?_
          simp only [zp]
          refine st_end ?_
          subst hQ
          refine wp_seq ?_
          refine wq fun Q hQ => ?_
          refine st_call (some 8) rfl rfl (lives_any w) (ex_call (f := 9) (vs := []) rfl (cf9 _) rfl) ?_
          rintro e W1 ⟨rfl, B⟩
          refine ⟨_, rfl, ?_⟩
          simp only [zp]
          replace E := below_next E B
          refine sv (.bool false) 9 rfl rfl (ex_not rfl rfl rfl) ?_
          simp only [zp]
          refine sm (.bool false) 10 rfl rfl rfl rfl ?_
          simp only [zp]
          refine sm (.float .f64 a) 11 rfl rfl rfl rfl ?_
          simp only [zp]
          refine sm (.float .f64 a) 12 rfl rfl rfl rfl ?_
          simp only [zp]
          refine st_call (some 13) rfl rfl (sless_any a a W1 (ls_self a)) (ex_call (f := 23) (vs := [(.float .f64 a), (.float .f64 a)]) rfl (cf23 _) rfl) ?_
          rintro e W2 ⟨rfl, B⟩
          refine ⟨_, rfl, ?_⟩
          simp only [zp]
          replace E := below_next E B
          refine sv (.bool false) 14 rfl rfl (ex_pkF rfl rfl rfl) ?_
          simp only [zp]
          refine sm (.bool false) 15 rfl rfl rfl rfl ?_
          simp only [zp]
          refine sm (.float .f64 a) 16 rfl rfl rfl rfl ?_
          simp only [zp]
          refine sm (.float .f64 b) 17 rfl rfl rfl rfl ?_
          simp only [zp]
          refine st_call (some 18) rfl rfl (sless_any a b W2 ab) (ex_call (f := 23) (vs := [(.float .f64 a), (.float .f64 b)]) rfl (cf23 _) rfl) ?_
          rintro e W3 ⟨rfl, B⟩
          refine ⟨_, rfl, ?_⟩
          simp only [zp]
          replace E := below_next E B
          refine sm (.bool false) 19 rfl rfl rfl rfl ?_
          simp only [zp]
          refine sn 20 rfl rfl ?_
          simp only [zp]
          refine sn 21 rfl rfl ?_
          simp only [zp]
          refine sn 22 rfl rfl ?_
          simp only [zp]
          refine sv (.bool false) 23 rfl rfl (ex_pkF rfl rfl rfl) ?_
          simp only [zp]
          refine sv (.bool false) 24 rfl rfl (ex_pkF rfl rfl rfl) ?_
          simp only [zp]
          refine sm (.bool false) 25 rfl rfl rfl rfl ?_
          simp only [zp]
          refine sm (.float .f64 a) 26 rfl rfl rfl rfl ?_
          simp only [zp]
          refine sm (.float .f64 b) 27 rfl rfl rfl rfl ?_
          simp only [zp]
          refine st_call (some 28) rfl rfl (sless_any a b W3 ab) (ex_call (f := 23) (vs := [(.float .f64 a), (.float .f64 b)]) rfl (cf23 _) rfl) ?_
          rintro e W4 ⟨rfl, B⟩
          refine ⟨_, rfl, ?_⟩
          simp only [zp]
          replace E := below_next E B
          refine sm (.bool false) 29 rfl rfl rfl rfl ?_
          simp only [zp]
          refine sn 30 rfl rfl ?_
          simp only [zp]
          refine sn 31 rfl rfl ?_
          simp only [zp]
          refine sn 32 rfl rfl ?_
          simp only [zp]
          refine sv (.bool false) 33 rfl rfl (ex_pkF rfl rfl rfl) ?_
          simp only [zp]
          refine sm (.bool false) 34 rfl rfl rfl rfl ?_
          simp only [zp]
          refine sn 35 rfl rfl ?_
          simp only [zp]
          refine sn 36 rfl rfl ?_
          simp only [zp]
          refine sn 37 rfl rfl ?_
          simp only [zp]
          refine sn 38 rfl rfl ?_
          simp only [zp]
          refine sv (.bool false) 39 rfl rfl (ex_pkF rfl rfl rfl) ?_
          simp only [zp]
          refine sv (.bool false) 40 rfl rfl (ex_pkF rfl rfl rfl) ?_
          simp only [zp]
          refine st_end ?_
          subst hQ
          refine wp_cond_false rfl ?_
          refine wp_skip ?_
          refine wq fun Q hQ => ?_
          refine sm (.float .f64 a) 41 rfl rfl rfl rfl ?_
          simp only [zp]
          refine sm (.float .f64 b) 42 rfl rfl rfl rfl ?_
          simp only [zp]
          refine st_call (some 43) rfl rfl (sless_any a b W4 ab) (ex_call (f := 23) (vs := [(.float .f64 a), (.float .f64 b)]) rfl (cf23 _) rfl) ?_
          rintro e W5 ⟨rfl, B⟩
          refine ⟨_, rfl, ?_⟩
          simp only [zp]
          replace E := below_next E B
          refine sv (.bool true) 44 rfl rfl (ex_not rfl rfl rfl) ?_
          simp only [zp]
          refine sm (.bool true) 45 rfl rfl rfl rfl ?_
          simp only [zp]
          refine sm (.float .f64 b) 46 rfl rfl rfl rfl ?_
          simp only [zp]
          refine sm (.float .f64 a) 47 rfl rfl rfl rfl ?_
          simp only [zp]
          refine st_call (some 48) rfl rfl (sless_any b a W5 ba) (ex_call (f := 23) (vs := [(.float .f64 b), (.float .f64 a)]) rfl (cf23 _) rfl) ?_
          rintro e W6 ⟨rfl, B⟩
          refine ⟨_, rfl, ?_⟩
          simp only [zp]
          replace E := below_next E B
          refine sv (.bool true) 49 rfl rfl (ex_not rfl rfl rfl) ?_
          simp only [zp]
          refine sv (.bool true) 50 rfl rfl (ex_pkT rfl rfl rfl) ?_
          simp only [zp]
          refine sg (.bool true) 7 rfl rfl rfl rfl ?_
          simp only [zp]
          refine st_end ?_
          subst hQ
          refine wq fun Q hQ => ?_
          refine sm (.bool true) 51 rfl rfl rfl rfl ?_
          simp only [zp]
          refine sv (.bool false) 52 rfl rfl (ex_not rfl rfl rfl) ?_
          simp only [zp]
          refine sm (.bool false) 53 rfl rfl rfl rfl ?_
          simp only [zp]
          refine sm (.float .f64 a) 54 rfl rfl rfl rfl ?_
          simp only [zp]
          refine sm (.float .f64 c) 55 rfl rfl rfl rfl ?_
          simp only [zp]
          refine st_call (some 56) rfl rfl (sless_any a c W6 ac) (ex_call (f := 23) (vs := [(.float .f64 a), (.float .f64 c)]) rfl (cf23 _) rfl) ?_
          rintro e W7 ⟨rfl, B⟩
          refine ⟨_, rfl, ?_⟩
          simp only [zp]
          replace E := below_next E B
          refine sm (.float .f64 b) 57 rfl rfl rfl rfl ?_
          simp only [zp]
          refine sm (.float .f64 c) 58 rfl rfl rfl rfl ?_
          simp only [zp]
          refine st_call (some 59) rfl rfl (sless_any b c W7 bc) (ex_call (f := 23) (vs := [(.float .f64 b), (.float .f64 c)]) rfl (cf23 _) rfl) ?_
          rintro e W8 ⟨rfl, B⟩
          refine ⟨_, rfl, ?_⟩
          simp only [zp]
          replace E := below_next E B
          refine sv (.bool true) 60 rfl rfl (ex_bin (u := (.bool true)) (r := (.bool true)) rfl rfl rfl (eg4 _ _ _ _ _ _) (eql4 _ (beq_self_eq_true _))) ?_
          simp only [zp]
          refine sm (.bool true) 61 rfl rfl rfl rfl ?_
          simp only [zp]
          refine sm (.float .f64 c) 62 rfl rfl rfl rfl ?_
          simp only [zp]
          refine sm (.float .f64 a) 63 rfl rfl rfl rfl ?_
          simp only [zp]
          refine st_call (some 64) rfl rfl (sless_any c a W8 ca) (ex_call (f := 23) (vs := [(.float .f64 c), (.float .f64 a)]) rfl (cf23 _) rfl) ?_
          rintro e W9 ⟨rfl, B⟩
          refine ⟨_, rfl, ?_⟩
          simp only [zp]
          replace E := below_next E B
          refine sm (.float .f64 c) 65 rfl rfl rfl rfl ?_
          simp only [zp]
          refine sm (.float .f64 b) 66 rfl rfl rfl rfl ?_
          simp only [zp]
          refine st_call (some 67) rfl rfl (sless_any c b W9 cb) (ex_call (f := 23) (vs := [(.float .f64 c), (.float .f64 b)]) rfl (cf23 _) rfl) ?_
          rintro e W10 ⟨rfl, B⟩
          refine ⟨_, rfl, ?_⟩
          simp only [zp]
          replace E := below_next E B
          refine sv (.bool true) 68 rfl rfl (ex_bin (u := (.bool false)) (r := (.bool false)) rfl rfl rfl (eg4 _ _ _ _ _ _) (eql4 _ (beq_self_eq_true _))) ?_
          simp only [zp]
          refine sv (.bool true) 69 rfl rfl (ex_pkT rfl rfl rfl) ?_
          simp only [zp]
          refine sv (.bool true) 70 rfl rfl (ex_pkF rfl rfl rfl) ?_
          simp only [zp]
          refine sg (.bool true) 6 rfl rfl rfl rfl ?_
          simp only [zp]
          refine st_end ?_
          subst hQ
          refine wp_ret ?_
          repeat (first | refine ret_out ?_ | refine ret_blk ?_)
          exact bodyPost_ret (results_tmp Try.results7 _ _ _) rfl ⟨rfl, E⟩
      
      | false =>
        have bc := q1.symm.trans ac
        cases ca : lsN c a with
        | true =>
          have cb := q2.symm.trans ca
          have E : Below w.heap.size w w := Below.refl _ _
          go_enter Try.func7, Try.ntmps7
          refine wq fun Q hQ => ?_
          refine sg (.bool false) 6 rfl rfl rfl rfl ?_
          simp only [zp]
          refine st_end ?_
          subst hQ
          refine wp_seq ?_
          refine wq fun Q hQ => ?_
          refine st_call (some 8) rfl rfl (lives_any w) (ex_call (f := 9) (vs := []) rfl (cf9 _) rfl) ?_
          rintro e W1 ⟨rfl, B⟩
          refine ⟨_, rfl, ?_⟩
          simp only [zp]
          replace E := below_next E B
          refine sv (.bool false) 9 rfl rfl (ex_not rfl rfl rfl) ?_
          simp only [zp]
          refine sm (.bool false) 10 rfl rfl rfl rfl ?_
          simp only [zp]
          refine sm (.float .f64 a) 11 rfl rfl rfl rfl ?_
          simp only [zp]
          refine sm (.float .f64 a) 12 rfl rfl rfl rfl ?_
          simp only [zp]
          refine st_call (some 13) rfl rfl (sless_any a a W1 (ls_self a)) (ex_call (f := 23) (vs := [(.float .f64 a), (.float .f64 a)]) rfl (cf23 _) rfl) ?_
          rintro e W2 ⟨rfl, B⟩
          refine ⟨_, rfl, ?_⟩
          simp only [zp]
          replace E := below_next E B
          refine sv (.bool false) 14 rfl rfl (ex_pkF rfl rfl rfl) ?_
          simp only [zp]
          refine sm (.bool false) 15 rfl rfl rfl rfl ?_
          simp only [zp]
          refine sm (.float .f64 a) 16 rfl rfl rfl rfl ?_
          simp only [zp]
          refine sm (.float .f64 b) 17 rfl rfl rfl rfl ?_
          simp only [zp]
          refine st_call (some 18) rfl rfl (sless_any a b W2 ab) (ex_call (f := 23) (vs := [(.float .f64 a), (.float .f64 b)]) rfl (cf23 _) rfl) ?_
          rintro e W3 ⟨rfl, B⟩
          refine ⟨_, rfl, ?_⟩
          simp only [zp]
          replace E := below_next E B
          refine sm (.bool false) 19 rfl rfl rfl rfl ?_
          simp only [zp]
          refine sn 20 rfl rfl ?_
          simp only [zp]
          refine sn 21 rfl rfl ?_
          simp only [zp]
          refine sn 22 rfl rfl ?_
          simp only [zp]
          refine sv (.bool false) 23 rfl rfl (ex_pkF rfl rfl rfl) ?_
          simp only [zp]
          refine sv (.bool false) 24 rfl rfl (ex_pkF rfl rfl rfl) ?_
          simp only [zp]
          refine sm (.bool false) 25 rfl rfl rfl rfl ?_
          simp only [zp]
          refine sm (.float .f64 a) 26 rfl rfl rfl rfl ?_
          simp only [zp]
          refine sm (.float .f64 b) 27 rfl rfl rfl rfl ?_
          simp only [zp]
          refine st_call (some 28) rfl rfl (sless_any a b W3 ab) (ex_call (f := 23) (vs := [(.float .f64 a), (.float .f64 b)]) rfl (cf23 _) rfl) ?_
          rintro e W4 ⟨rfl, B⟩
          refine ⟨_, rfl, ?_⟩
          simp only [zp]
          replace E := below_next E B
          refine sm (.bool false) 29 rfl rfl rfl rfl ?_
          simp only [zp]
          refine sn 30 rfl rfl ?_
          simp only [zp]
          refine sn 31 rfl rfl ?_
          simp only [zp]
          refine sn 32 rfl rfl ?_
          simp only [zp]
          refine sv (.bool false) 33 rfl rfl (ex_pkF rfl rfl rfl) ?_
          simp only [zp]
          refine sm (.bool false) 34 rfl rfl rfl rfl ?_
          simp only [zp]
          refine sn 35 rfl rfl ?_
          simp only [zp]
          refine sn 36 rfl rfl ?_
          simp only [zp]
          refine sn 37 rfl rfl ?_
          simp only [zp]
          refine sn 38 rfl rfl ?_
          simp only [zp]
          refine sv (.bool false) 39 rfl rfl (ex_pkF rfl rfl rfl) ?_
          simp only [zp]
          refine sv (.bool false) 40 rfl rfl (ex_pkF rfl rfl rfl) ?_
          simp only [zp]
          refine st_end ?_
          subst hQ
          refine wp_cond_false rfl ?_
          refine wp_skip ?_
          refine wq fun Q hQ => ?_
          refine sm (.float .f64 a) 41 rfl rfl rfl rfl ?_
          simp only [zp]
          refine sm (.float .f64 b) 42 rfl rfl rfl rfl ?_
          simp only [zp]
          refine st_call (some 43) rfl rfl (sless_any a b W4 ab) (ex_call (f := 23) (vs := [(.float .f64 a), (.float .f64 b)]) rfl (cf23 _) rfl) ?_
          rintro e W5 ⟨rfl, B⟩
          refine ⟨_, rfl, ?_⟩
          simp only [zp]
          replace E := below_next E B
          refine sv (.bool true) 44 rfl rfl (ex_not rfl rfl rfl) ?_
          simp only [zp]
          refine sm (.bool true) 45 rfl rfl rfl rfl ?_
          simp only [zp]
          refine sm (.float .f64 b) 46 rfl rfl rfl rfl ?_
          simp only [zp]
          refine sm (.float .f64 a) 47 rfl rfl rfl rfl ?_
          simp only [zp]
          refine st_call (some 48) rfl rfl (sless_any b a W5 ba) (ex_call (f := 23) (vs := [(.float .f64 b), (.float .f64 a)]) rfl (cf23 _) rfl) ?_
          rintro e W6 ⟨rfl, B⟩
          refine ⟨_, rfl, ?_⟩
          simp only [zp]
          replace E := below_next E B
          refine sv (.bool true) 49 rfl rfl (ex_not rfl rfl rfl) ?_
          simp only [zp]
          refine sv (.bool true) 50 rfl rfl (ex_pkT rfl rfl rfl) ?_
          simp only [zp]
          refine sg (.bool true) 7 rfl rfl rfl rfl ?_
          simp only [zp]
          refine st_end ?_
          subst hQ
          refine wq fun Q hQ => ?_
          refine sm (.bool true) 51 rfl rfl rfl rfl ?_
          simp only [zp]
          refine sv (.bool false) 52 rfl rfl (ex_not rfl rfl rfl) ?_
          simp only [zp]
          refine sm (.bool false) 53 rfl rfl rfl rfl ?_
          simp only [zp]
          refine sm (.float .f64 a) 54 rfl rfl rfl rfl ?_
          simp only [zp]
          refine sm (.float .f64 c) 55 rfl rfl rfl rfl ?_
          simp only [zp]
          refine st_call (some 56) rfl rfl (sless_any a c W6 ac) (ex_call (f := 23) (vs := [(.float .f64 a), (.float .f64 c)]) rfl (cf23 _) rfl) ?_
          rintro e W7 ⟨rfl, B⟩
          refine ⟨_, rfl, ?_⟩
          simp only [zp]
          replace E := below_next E B
          refine sm (.float .f64 b) 57 rfl rfl rfl rfl ?_
          simp only [zp]
          refine sm (.float .f64 c) 58 rfl rfl rfl rfl ?_
          simp only [zp]
          refine st_call (some 59) rfl rfl (sless_any b c W7 bc) (ex_call (f := 23) (vs := [(.float .f64 b), (.float .f64 c)]) rfl (cf23 _) rfl) ?_
          rintro e W8 ⟨rfl, B⟩
          refine ⟨_, rfl, ?_⟩
          simp only [zp]
          replace E := below_next E B
          refine sv (.bool true) 60 rfl rfl (ex_bin (u := (.bool false)) (r := (.bool false)) rfl rfl rfl (eg4 _ _ _ _ _ _) (eql4 _ (beq_self_eq_true _))) ?_
          simp only [zp]
          refine sm (.bool true) 61 rfl rfl rfl rfl ?_
          simp only [zp]
          refine sm (.float .f64 c) 62 rfl rfl rfl rfl ?_
          simp only [zp]
          refine sm (.float .f64 a) 63 rfl rfl rfl rfl ?_
          simp only [zp]
          refine st_call (some 64) rfl rfl (sless_any c a W8 ca) (ex_call (f := 23) (vs := [(.float .f64 c), (.float .f64 a)]) rfl (cf23 _) rfl) ?_
          rintro e W9 ⟨rfl, B⟩
          refine ⟨_, rfl, ?_⟩
          simp only [zp]
          replace E := below_next E B
          refine sm (.float .f64 c) 65 rfl rfl rfl rfl ?_
          simp only [zp]
          refine sm (.float .f64 b) 66 rfl rfl rfl rfl ?_
          simp only [zp]
          refine st_call (some 67) rfl rfl (sless_any c b W9 cb) (ex_call (f := 23) (vs := [(.float .f64 c), (.float .f64 b)]) rfl (cf23 _) rfl) ?_
          rintro e W10 ⟨rfl, B⟩
          refine ⟨_, rfl, ?_⟩
          simp only [zp]
          replace E := below_next E B
          refine sv (.bool true) 68 rfl rfl (ex_bin (u := (.bool true)) (r := (.bool true)) rfl rfl rfl (eg4 _ _ _ _ _ _) (eql4 _ (beq_self_eq_true _))) ?_
          simp only [zp]
          refine sv (.bool true) 69 rfl rfl (ex_pkT rfl rfl rfl) ?_
          simp only [zp]
          refine sv (.bool true) 70 rfl rfl (ex_pkF rfl rfl rfl) ?_
          simp only [zp]
          refine sg (.bool true) 6 rfl rfl rfl rfl ?_
          simp only [zp]
          refine st_end ?_
          subst hQ
          refine wp_ret ?_
          repeat (first | refine ret_out ?_ | refine ret_blk ?_)
          exact bodyPost_ret (results_tmp Try.results7 _ _ _) rfl ⟨rfl, E⟩
        
        | false =>
          have cb := q2.symm.trans ca
          have E : Below w.heap.size w w := Below.refl _ _
          go_enter Try.func7, Try.ntmps7
          refine wq fun Q hQ => ?_
          refine sg (.bool false) 6 rfl rfl rfl rfl ?_
          simp only [zp]
          refine st_end ?_
          subst hQ
          refine wp_seq ?_
          refine wq fun Q hQ => ?_
          refine st_call (some 8) rfl rfl (lives_any w) (ex_call (f := 9) (vs := []) rfl (cf9 _) rfl) ?_
          rintro e W1 ⟨rfl, B⟩
          refine ⟨_, rfl, ?_⟩
          simp only [zp]
          replace E := below_next E B
          refine sv (.bool false) 9 rfl rfl (ex_not rfl rfl rfl) ?_
          simp only [zp]
          refine sm (.bool false) 10 rfl rfl rfl rfl ?_
          simp only [zp]
          refine sm (.float .f64 a) 11 rfl rfl rfl rfl ?_
          simp only [zp]
          refine sm (.float .f64 a) 12 rfl rfl rfl rfl ?_
          simp only [zp]
          refine st_call (some 13) rfl rfl (sless_any a a W1 (ls_self a)) (ex_call (f := 23) (vs := [(.float .f64 a), (.float .f64 a)]) rfl (cf23 _) rfl) ?_
          rintro e W2 ⟨rfl, B⟩
          refine ⟨_, rfl, ?_⟩
          simp only [zp]
          replace E := below_next E B
          refine sv (.bool false) 14 rfl rfl (ex_pkF rfl rfl rfl) ?_
          simp only [zp]
          refine sm (.bool false) 15 rfl rfl rfl rfl ?_
          simp only [zp]
          refine sm (.float .f64 a) 16 rfl rfl rfl rfl ?_
          simp only [zp]
          refine sm (.float .f64 b) 17 rfl rfl rfl rfl ?_
          simp only [zp]
          refine st_call (some 18) rfl rfl (sless_any a b W2 ab) (ex_call (f := 23) (vs := [(.float .f64 a), (.float .f64 b)]) rfl (cf23 _) rfl) ?_
          rintro e W3 ⟨rfl, B⟩
          refine ⟨_, rfl, ?_⟩
          simp only [zp]
          replace E := below_next E B
          refine sm (.bool false) 19 rfl rfl rfl rfl ?_
          simp only [zp]
          refine sn 20 rfl rfl ?_
          simp only [zp]
          refine sn 21 rfl rfl ?_
          simp only [zp]
          refine sn 22 rfl rfl ?_
          simp only [zp]
          refine sv (.bool false) 23 rfl rfl (ex_pkF rfl rfl rfl) ?_
          simp only [zp]
          refine sv (.bool false) 24 rfl rfl (ex_pkF rfl rfl rfl) ?_
          simp only [zp]
          refine sm (.bool false) 25 rfl rfl rfl rfl ?_
          simp only [zp]
          refine sm (.float .f64 a) 26 rfl rfl rfl rfl ?_
          simp only [zp]
          refine sm (.float .f64 b) 27 rfl rfl rfl rfl ?_
          simp only [zp]
          refine st_call (some 28) rfl rfl (sless_any a b W3 ab) (ex_call (f := 23) (vs := [(.float .f64 a), (.float .f64 b)]) rfl (cf23 _) rfl) ?_
          rintro e W4 ⟨rfl, B⟩
          refine ⟨_, rfl, ?_⟩
          simp only [zp]
          replace E := below_next E B
          refine sm (.bool false) 29 rfl rfl rfl rfl ?_
          simp only [zp]
          refine sn 30 rfl rfl ?_
          simp only [zp]
          refine sn 31 rfl rfl ?_
          simp only [zp]
          refine sn 32 rfl rfl ?_
          simp only [zp]
          refine sv (.bool false) 33 rfl rfl (ex_pkF rfl rfl rfl) ?_
          simp only [zp]
          refine sm (.bool false) 34 rfl rfl rfl rfl ?_
          simp only [zp]
          refine sn 35 rfl rfl ?_
          simp only [zp]
          refine sn 36 rfl rfl ?_
          simp only [zp]
          refine sn 37 rfl rfl ?_
          simp only [zp]
          refine sn 38 rfl rfl ?_
          simp only [zp]
          refine sv (.bool false) 39 rfl rfl (ex_pkF rfl rfl rfl) ?_
          simp only [zp]
          refine sv (.bool false) 40 rfl rfl (ex_pkF rfl rfl rfl) ?_
          simp only [zp]
          refine st_end ?_
          subst hQ
          refine wp_cond_false rfl ?_
          refine wp_skip ?_
          refine wq fun Q hQ => ?_
          refine sm (.float .f64 a) 41 rfl rfl rfl rfl ?_
          simp only [zp]
          refine sm (.float .f64 b) 42 rfl rfl rfl rfl ?_
          simp only [zp]
          refine st_call (some 43) rfl rfl (sless_any a b W4 ab) (ex_call (f := 23) (vs := [(.float .f64 a), (.float .f64 b)]) rfl (cf23 _) rfl) ?_
          rintro e W5 ⟨rfl, B⟩
          refine ⟨_, rfl, ?_⟩
          simp only [zp]
          replace E := below_next E B
          refine sv (.bool true) 44 rfl rfl (ex_not rfl rfl rfl) ?_
          simp only [zp]
          refine sm (.bool true) 45 rfl rfl rfl rfl ?_
          simp only [zp]
          refine sm (.float .f64 b) 46 rfl rfl rfl rfl ?_
          simp only [zp]
          refine sm (.float .f64 a) 47 rfl rfl rfl rfl ?_
          simp only [zp]
          refine st_call (some 48) rfl rfl (sless_any b a W5 ba) (ex_call (f := 23) (vs := [(.float .f64 b), (.float .f64 a)]) rfl (cf23 _) rfl) ?_
          rintro e W6 ⟨rfl, B⟩
          refine ⟨_, rfl, ?_⟩
          simp only [zp]
          replace E := below_next E B
          refine sv (.bool true) 49 rfl rfl (ex_not rfl rfl rfl) ?_
          simp only [zp]
          refine sv (.bool true) 50 rfl rfl (ex_pkT rfl rfl rfl) ?_
          simp only [zp]
          refine sg (.bool true) 7 rfl rfl rfl rfl ?_
          simp only [zp]
          refine st_end ?_
          subst hQ
          refine wq fun Q hQ => ?_
          refine sm (.bool true) 51 rfl rfl rfl rfl ?_
          simp only [zp]
          refine sv (.bool false) 52 rfl rfl (ex_not rfl rfl rfl) ?_
          simp only [zp]
          refine sm (.bool false) 53 rfl rfl rfl rfl ?_
          simp only [zp]
          refine sm (.float .f64 a) 54 rfl rfl rfl rfl ?_
          simp only [zp]
          refine sm (.float .f64 c) 55 rfl rfl rfl rfl ?_
          simp only [zp]
          refine st_call (some 56) rfl rfl (sless_any a c W6 ac) (ex_call (f := 23) (vs := [(.float .f64 a), (.float .f64 c)]) rfl (cf23 _) rfl) ?_
          rintro e W7 ⟨rfl, B⟩
          refine ⟨_, rfl, ?_⟩
          simp only [zp]
          replace E := below_next E B
          refine sm (.float .f64 b) 57 rfl rfl rfl rfl ?_
          simp only [zp]
          refine sm (.float .f64 c) 58 rfl rfl rfl rfl ?_
          simp only [zp]
          refine st_call (some 59) rfl rfl (sless_any b c W7 bc) (ex_call (f := 23) (vs := [(.float .f64 b), (.float .f64 c)]) rfl (cf23 _) rfl) ?_
          rintro e W8 ⟨rfl, B⟩
          refine ⟨_, rfl, ?_⟩
          simp only [zp]
          replace E := below_next E B
          refine sv (.bool true) 60 rfl rfl (ex_bin (u := (.bool false)) (r := (.bool false)) rfl rfl rfl (eg4 _ _ _ _ _ _) (eql4 _ (beq_self_eq_true _))) ?_
          simp only [zp]
          refine sm (.bool true) 61 rfl rfl rfl rfl ?_
          simp only [zp]
          refine sm (.float .f64 c) 62 rfl rfl rfl rfl ?_
          simp only [zp]
          refine sm (.float .f64 a) 63 rfl rfl rfl rfl ?_
          simp only [zp]
          refine st_call (some 64) rfl rfl (sless_any c a W8 ca) (ex_call (f := 23) (vs := [(.float .f64 c), (.float .f64 a)]) rfl (cf23 _) rfl) ?_
          rintro e W9 ⟨rfl, B⟩
          refine ⟨_, rfl, ?_⟩
          simp only [zp]
          replace E := below_next E B
          refine sm (.float .f64 c) 65 rfl rfl rfl rfl ?_
          simp only [zp]
          refine sm (.float .f64 b) 66 rfl rfl rfl rfl ?_
          simp only [zp]
          refine st_call (some 67) rfl rfl (sless_any c b W9 cb) (ex_call (f := 23) (vs := [(.float .f64 c), (.float .f64 b)]) rfl (cf23 _) rfl) ?_
          rintro e W10 ⟨rfl, B⟩
          refine ⟨_, rfl, ?_⟩
          simp only [zp]
          replace E := below_next E B
          refine sv (.bool true) 68 rfl rfl (ex_bin (u := (.bool false)) (r := (.bool false)) rfl rfl rfl (eg4 _ _ _ _ _ _) (eql4 _ (beq_self_eq_true _))) ?_
          simp only [zp]
          refine sv (.bool true) 69 rfl rfl (ex_pkT rfl rfl rfl) ?_
          simp only [zp]
          refine sv (.bool true) 70 rfl rfl (ex_pkF rfl rfl rfl) ?_
          simp only [zp]
          refine sg (.bool true) 6 rfl rfl rfl rfl ?_
          simp only [zp]
          refine st_end ?_
          subst hQ
          refine wp_ret ?_
          repeat (first | refine ret_out ?_ | refine ret_blk ?_)
          exact bodyPost_ret (results_tmp Try.results7 _ _ _) rfl ⟨rfl, E⟩
set_option maxHeartbeats 16000000 in
theorem chances_any {p : PV} {a c t : Int} {x : Nat} (w : World) (hp : PB p) (hc : c ≤ 9223372036854775807) (t1 : -9223372036854775808 ≤ t) (t2 : t ≤ 9223372036854775807) (hx : x < 18446744073709551616) : Calls Try.prog 3 #[.agg (PL p), .int .i64 a, .int .i64 c, .int .i64 t, .float .f64 x] w fun e w' => e = .returned (.bool true) ∧ Below w.heap.size w w' := by
  have E : Below w.heap.size w w := Below.refl _ _
  go_enter Try.func3, Try.ntmps3
  refine wq fun Q hQ => ?_
  refine st_new (fun b => .pointer (some ⟨b, 0, none⟩)) (some 5) rfl rfl (ex_box rfl rfl) ?_
  intro b1 W1 k1 g1 B
  simp only [zp]
  have ge_b1 := Nat.le_trans E.size g1
  replace E := below_next E B
  clear B
  refine sg (.bool false) 10 rfl rfl rfl rfl ?_
  simp only [zp]
  refine st_end ?_
  subst hQ
  refine wp_seq ?_
  obtain ⟨W2, hwd⟩ : ∃ wd, W1.drew = wd := ⟨_, rfl⟩
  refine wp_region_held (S := fun W => Kept Nil W2 W) (by kernel_rfl) ?_
  show wpAnyH _ _ _ _ _ _ _ _ W1.drew
  rw [hwd]
  refine capQ fun Q hQ => ?_
  have hQP : ∀ c (a : Act) (d : Nat) v w, Q (.panic c) (a.put (some d) v) w → Q (.panic c) a w := by
    subst hQ
    exact fun _ _ _ _ _ h => h
  have BD : Below W1.heap.size W1 W2 := by rw [← hwd]; exact below_drewB (Below.refl _ _)
  clear hwd
  replace E := below_next E BD
  replace k1 := keep BD k1
  clear BD
  have S : Kept Nil W2 W2 := Kept.refl _ _
  have d_k1 := k1
  refine ah_or1 (i := 0) (by kernel_rfl) ?_
  refine nx_call (some 11) rfl rfl rfl (lives_any W2) (ex_call (f := 9) (vs := []) rfl (cf9 _) rfl) ?_
  rintro e W3 ⟨rfl, B⟩
  refine ⟨_, rfl, S.next B, ?_⟩
  simp only [zp]
  replace E := below_next E B
  replace k1 := keep B k1
  replace S := S.next B
  refine ah_take (v := (.bool true)) (i := 1) (some 12) rfl rfl (by kernel_rfl) (by kernel_rfl) (by kernel_rfl) rfl (fun W hK => ex_mv rfl rfl) S (fun c a w h => hQP c a _ _ w h) ?_
  simp only [zp]
  refine ah_take (v := (.float .f64 x)) (i := 2) (some 13) rfl rfl (by kernel_rfl) (by kernel_rfl) (by kernel_rfl) rfl (fun W hK => ex_mv rfl rfl) S (fun c a w h => hQP c a _ _ w h) ?_
  simp only [zp]
  refine ah_take (v := (.float .f64 x)) (i := 4) (some 15) rfl rfl (by kernel_rfl) (by kernel_rfl) (by kernel_rfl) rfl (fun W hK => ex_mv rfl rfl) S (fun c a w h => hQP c a _ _ w h) ?_
  simp only [zp]
  refine ah_or1 (i := 3) (by kernel_rfl) ?_
  refine nx_call (some 14) rfl rfl rfl (sclean_any x W3 hx) (ex_call (f := 11) (vs := [(.float .f64 x)]) rfl (cf11 _) rfl) ?_
  rintro e W4 ⟨rfl, B⟩
  refine ⟨_, rfl, S.next B, ?_⟩
  simp only [zp]
  replace E := below_next E B
  replace k1 := keep B k1
  replace S := S.next B
  refine ah_or1 (i := 5) (by kernel_rfl) ?_
  refine nx_call (some 16) rfl rfl rfl (rclean_any x W4 hx) (ex_call (f := 12) (vs := [(.float .f64 x)]) rfl (cf12 _) rfl) ?_
  rintro e W5 ⟨rfl, B⟩
  refine ⟨_, rfl, S.next B, ?_⟩
  simp only [zp]
  replace E := below_next E B
  replace k1 := keep B k1
  replace S := S.next B
  refine ah_or1 (i := 6) (by kernel_rfl) ?_
  refine nx_call (some 17) rfl rfl rfl (same_any _ W5) (ex_call (f := 10) (vs := [(.float .f64 (cln x)), (.float .f64 (cln x))]) rfl (cf10 _) rfl) ?_
  rintro e W6 ⟨rfl, B⟩
  refine ⟨_, rfl, S.next B, ?_⟩
  simp only [zp]
  replace E := below_next E B
  replace k1 := keep B k1
  replace S := S.next B
  refine ah_take (v := (.bool true)) (i := 7) (some 18) rfl rfl (by kernel_rfl) (by kernel_rfl) (by kernel_rfl) rfl (fun W hK => ex_pkT rfl rfl rfl) S (fun c a w h => hQP c a _ _ w h) ?_
  simp only [zp]
  refine ah_take (v := (.bool true)) (i := 8) (some 19) rfl rfl (by kernel_rfl) (by kernel_rfl) (by kernel_rfl) rfl (fun W hK => ex_mv rfl rfl) S (fun c a w h => hQP c a _ _ w h) ?_
  simp only [zp]
  refine ah_take (v := (.int .i64 t)) (i := 9) (some 20) rfl rfl (by kernel_rfl) (by kernel_rfl) (by kernel_rfl) rfl (fun W hK => ex_mv rfl rfl) S (fun c a w h => hQP c a _ _ w h) ?_
  simp only [zp]
  refine ah_take (v := (.int .i64 t)) (i := 11) (some 22) rfl rfl (by kernel_rfl) (by kernel_rfl) (by kernel_rfl) rfl (fun W hK => ex_mv rfl rfl) S (fun c a w h => hQP c a _ _ w h) ?_
  simp only [zp]
  refine ah_or1 (i := 10) (by kernel_rfl) ?_
  refine nx_call (some 21) rfl rfl rfl (sweight_any t W6 t2) (ex_call (f := 13) (vs := [(.int .i64 t)]) rfl (cf13 _) rfl) ?_
  rintro e W7 ⟨rfl, B⟩
  refine ⟨_, rfl, S.next B, ?_⟩
  simp only [zp]
  replace E := below_next E B
  replace k1 := keep B k1
  replace S := S.next B
  refine ah_or1 (i := 12) (by kernel_rfl) ?_
  refine nx_call (some 23) rfl rfl rfl (rweight_any t W7 t2) (ex_call (f := 14) (vs := [(.int .i64 t)]) rfl (cf14 _) rfl) ?_
  rintro e W8 ⟨rfl, B⟩
  refine ⟨_, rfl, S.next B, ?_⟩
  simp only [zp]
  replace E := below_next E B
  replace k1 := keep B k1
  replace S := S.next B
  refine ah_or1 (i := 13) (by kernel_rfl) ?_
  refine nx_call (some 24) rfl rfl rfl (same_any _ W8) (ex_call (f := 10) (vs := [(.float .f64 (wt t)), (.float .f64 (wt t))]) rfl (cf10 _) rfl) ?_
  rintro e W9 ⟨rfl, B⟩
  refine ⟨_, rfl, S.next B, ?_⟩
  simp only [zp]
  replace E := below_next E B
  replace k1 := keep B k1
  replace S := S.next B
  refine ah_take (v := (.bool true)) (i := 14) (some 25) rfl rfl (by kernel_rfl) (by kernel_rfl) (by kernel_rfl) rfl (fun W hK => ex_pkT rfl rfl rfl) S (fun c a w h => hQP c a _ _ w h) ?_
  simp only [zp]
  refine ah_take (v := (.bool true)) (i := 15) (some 26) rfl rfl (by kernel_rfl) (by kernel_rfl) (by kernel_rfl) rfl (fun W hK => ex_mv rfl rfl) S (fun c a w h => hQP c a _ _ w h) ?_
  simp only [zp]
  refine ah_take (v := (.int .i64 a)) (i := 16) (some 27) rfl rfl (by kernel_rfl) (by kernel_rfl) (by kernel_rfl) rfl (fun W hK => ex_mv rfl rfl) S (fun c a w h => hQP c a _ _ w h) ?_
  simp only [zp]
  refine ah_take (v := (.int .i64 c)) (i := 17) (some 28) rfl rfl (by kernel_rfl) (by kernel_rfl) (by kernel_rfl) rfl (fun W hK => ex_mv rfl rfl) S (fun c a w h => hQP c a _ _ w h) ?_
  simp only [zp]
  refine ah_take (v := (.int .i64 a)) (i := 19) (some 30) rfl rfl (by kernel_rfl) (by kernel_rfl) (by kernel_rfl) rfl (fun W hK => ex_mv rfl rfl) S (fun c a w h => hQP c a _ _ w h) ?_
  simp only [zp]
  refine ah_take (v := (.int .i64 c)) (i := 20) (some 31) rfl rfl (by kernel_rfl) (by kernel_rfl) (by kernel_rfl) rfl (fun W hK => ex_mv rfl rfl) S (fun c a w h => hQP c a _ _ w h) ?_
  simp only [zp]
  refine ah_or1 (i := 18) (by kernel_rfl) ?_
  refine nx_call (some 29) rfl rfl rfl (sguess_any a c W9 hc) (ex_call (f := 15) (vs := [(.int .i64 a), (.int .i64 c)]) rfl (cf15 _) rfl) ?_
  rintro e W10 ⟨rfl, B⟩
  refine ⟨_, rfl, S.next B, ?_⟩
  simp only [zp]
  replace E := below_next E B
  replace k1 := keep B k1
  replace S := S.next B
  refine ah_or1 (i := 21) (by kernel_rfl) ?_
  refine nx_call (some 32) rfl rfl rfl (rguess_any a c W10 hc) (ex_call (f := 16) (vs := [(.int .i64 a), (.int .i64 c)]) rfl (cf16 _) rfl) ?_
  rintro e W11 ⟨rfl, B⟩
  refine ⟨_, rfl, S.next B, ?_⟩
  simp only [zp]
  replace E := below_next E B
  replace k1 := keep B k1
  replace S := S.next B
  refine ah_or1 (i := 22) (by kernel_rfl) ?_
  refine nx_call (some 33) rfl rfl rfl (same_any _ W11) (ex_call (f := 10) (vs := [(.float .f64 (gs a c)), (.float .f64 (gs a c))]) rfl (cf10 _) rfl) ?_
  rintro e W12 ⟨rfl, B⟩
  refine ⟨_, rfl, S.next B, ?_⟩
  simp only [zp]
  replace E := below_next E B
  replace k1 := keep B k1
  replace S := S.next B
  refine ah_take (v := (.bool true)) (i := 23) (some 34) rfl rfl (by kernel_rfl) (by kernel_rfl) (by kernel_rfl) rfl (fun W hK => ex_pkT rfl rfl rfl) S (fun c a w h => hQP c a _ _ w h) ?_
  simp only [zp]
  refine ah_take (v := (.bool true)) (i := 24) (some 35) rfl rfl (by kernel_rfl) (by kernel_rfl) (by kernel_rfl) rfl (fun W hK => ex_mv rfl rfl) S (fun c a w h => hQP c a _ _ w h) ?_
  simp only [zp]
  refine ah_take (v := (.agg (PL p))) (i := 25) (some 36) rfl rfl (by kernel_rfl) (by kernel_rfl) (by kernel_rfl) rfl (fun W hK => ex_load (p := (.pointer (some ⟨b1, 0, none⟩))) rfl rfl (ld_all (keepK hK d_k1 (nilN _)) Try.underlying23 rfl inf23)) S (fun c a w h => hQP c a _ _ w h) ?_
  simp only [zp]
  refine ah_take (v := (.int .i64 a)) (i := 26) (some 37) rfl rfl (by kernel_rfl) (by kernel_rfl) (by kernel_rfl) rfl (fun W hK => ex_mv rfl rfl) S (fun c a w h => hQP c a _ _ w h) ?_
  simp only [zp]
  refine ah_take (v := (.int .i64 c)) (i := 27) (some 38) rfl rfl (by kernel_rfl) (by kernel_rfl) (by kernel_rfl) rfl (fun W hK => ex_mv rfl rfl) S (fun c a w h => hQP c a _ _ w h) ?_
  simp only [zp]
  refine ah_take (v := (.int .i64 t)) (i := 28) (some 39) rfl rfl (by kernel_rfl) (by kernel_rfl) (by kernel_rfl) rfl (fun W hK => ex_mv rfl rfl) S (fun c a w h => hQP c a _ _ w h) ?_
  simp only [zp]
  refine ah_take (v := (.agg (PL p))) (i := 30) (some 41) rfl rfl (by kernel_rfl) (by kernel_rfl) (by kernel_rfl) rfl (fun W hK => ex_load (p := (.pointer (some ⟨b1, 0, none⟩))) rfl rfl (ld_all (keepK hK d_k1 (nilN _)) Try.underlying23 rfl inf23)) S (fun c a w h => hQP c a _ _ w h) ?_
  simp only [zp]
  refine ah_take (v := (.int .i64 a)) (i := 31) (some 42) rfl rfl (by kernel_rfl) (by kernel_rfl) (by kernel_rfl) rfl (fun W hK => ex_mv rfl rfl) S (fun c a w h => hQP c a _ _ w h) ?_
  simp only [zp]
  refine ah_take (v := (.int .i64 c)) (i := 32) (some 43) rfl rfl (by kernel_rfl) (by kernel_rfl) (by kernel_rfl) rfl (fun W hK => ex_mv rfl rfl) S (fun c a w h => hQP c a _ _ w h) ?_
  simp only [zp]
  refine ah_take (v := (.int .i64 t)) (i := 33) (some 44) rfl rfl (by kernel_rfl) (by kernel_rfl) (by kernel_rfl) rfl (fun W hK => ex_mv rfl rfl) S (fun c a w h => hQP c a _ _ w h) ?_
  simp only [zp]
  refine ah_or1 (i := 29) (by kernel_rfl) ?_
  refine nx_call (some 40) rfl rfl rfl (schance_any W12 hc t1 t2 hp.g1 hp.g2 hp.b1 hp.b2) (ex_call (f := 17) (vs := [(.agg (PL p)), (.int .i64 a), (.int .i64 c), (.int .i64 t)]) rfl (cf17 _) rfl) ?_
  rintro e W13 ⟨rfl, B⟩
  refine ⟨_, rfl, S.next B, ?_⟩
  simp only [zp]
  replace E := below_next E B
  replace k1 := keep B k1
  replace S := S.next B
  refine ah_or1 (i := 34) (by kernel_rfl) ?_
  refine nx_call (some 45) rfl rfl rfl (rchance_any W13 hc t1 t2 hp.g1 hp.g2 hp.b1 hp.b2) (ex_call (f := 18) (vs := [(.agg (PL p)), (.int .i64 a), (.int .i64 c), (.int .i64 t)]) rfl (cf18 _) rfl) ?_
  rintro e W14 ⟨rfl, B⟩
  refine ⟨_, rfl, S.next B, ?_⟩
  simp only [zp]
  replace E := below_next E B
  replace k1 := keep B k1
  replace S := S.next B
  refine ah_or1 (i := 35) (by kernel_rfl) ?_
  refine nx_call (some 46) rfl rfl rfl (same_any _ W14) (ex_call (f := 10) (vs := [(.float .f64 (chN p a c t)), (.float .f64 (chN p a c t))]) rfl (cf10 _) rfl) ?_
  rintro e W15 ⟨rfl, B⟩
  refine ⟨_, rfl, S.next B, ?_⟩
  simp only [zp]
  replace E := below_next E B
  replace k1 := keep B k1
  replace S := S.next B
  refine ah_take (v := (.bool true)) (i := 36) (some 47) rfl rfl (by kernel_rfl) (by kernel_rfl) (by kernel_rfl) rfl (fun W hK => ex_pkT rfl rfl rfl) S (fun c a w h => hQP c a _ _ w h) ?_
  simp only [zp]
  refine ah_take (v := (.bool true)) (i := 37) (some 10) rfl rfl (by kernel_rfl) (by kernel_rfl) (by kernel_rfl) rfl (fun W hK => ex_asg rfl rfl) S (fun c a w h => hQP c a _ _ w h) ?_
  simp only [zp]
  refine ah_done (by kernel_rfl) ?_
  clear hQP
  subst hQ
  clear S d_k1 
  refine wp_ret ?_
  repeat (first | refine ret_out ?_ | refine ret_blk ?_)
  exact bodyPost_ret (results_tmp Try.results3 _ _ _) rfl ⟨rfl, E⟩
end Go.Proofs.Ytjmdcgfhblgehaa
