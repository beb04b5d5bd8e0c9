/- Doubles that are not below nought, by plain functions: what comes out, its bounds, and how it rises. -/
import Derived.Test.YtgnkcmmpbohafaaFltW
namespace Go.Proofs.Ytgnkcmmpbohafaa
open Ieee
set_option linter.unusedVariables false
set_option linter.unusedSimpArgs false

def INF : Nat := 9218868437227405312
theorem INF_is : INF = 9218868437227405312 := rfl
def fadd (x y : Nat) : Nat := (double.add x y).getD 0
def fsub (x y : Nat) : Nat := (double.sub x y).getD 0
def fmul (x y : Nat) : Nat := (double.mul x y).getD 0
def fdiv (x y : Nat) : Nat := (double.div x y).getD 0
def i2f (n : Int) : Nat := FloatKind.f64.nearest n
theorem ut_of (x e : Nat) (hx : x = e * 4503599627370496 + 4503599627370496) (h : 52 + e = UK) : iv x = UT := by
  rw [hx, iv_at e 4503599627370496 (by decide) (.inr (by decide))]
  unfold UT
  rw [← h, Nat.pow_add]
theorem iv_one : iv F1 = UT := ut_of F1 1022 rfl rfl
theorem F1_lt : F1 < 9218868437227405312 := by decide
section
variable {x y x' y' : Nat}
theorem add_is (hx : x < 9218868437227405312) (hy : y < 9218868437227405312) : double.add x y = some (fadd x y) ∧ IsR (fadd x y) (iv x + iv y) 1 := by
  obtain ⟨z, h1, h2⟩ := add_fin hx hy
  have : fadd x y = z := by unfold fadd; rw [h1]; rfl
  rw [this]
  exact ⟨h1, h2⟩
theorem add_some (hx : x ≤ 9218868437227405312) (hy : y ≤ 9218868437227405312) : double.add x y = some (fadd x y) ∧ fadd x y ≤ 9218868437227405312 := by
  by_cases h : x = 9218868437227405312 ∨ y = 9218868437227405312
  · have := add_end hx hy h
    have e : fadd x y = 9218868437227405312 := by unfold fadd; rw [this]; rfl
    rw [e]
    exact ⟨this, Nat.le_refl _⟩
  · have := add_is (x := x) (y := y) (by omega) (by omega)
    exact ⟨this.1, this.2.1⟩
theorem add_mono (hx' : x' ≤ 9218868437227405312) (hy' : y' ≤ 9218868437227405312) (hx : x ≤ x') (hy : y ≤ y') : fadd x y ≤ fadd x' y' := by
  by_cases h : x' = 9218868437227405312 ∨ y' = 9218868437227405312
  · have e : fadd x' y' = 9218868437227405312 := by unfold fadd; rw [add_end hx' hy' h]; rfl
    rw [e]
    exact (add_some (by omega) (by omega)).2
  · refine (add_is (x := x) (y := y) (by omega) (by omega)).2.le (add_is (x := x') (y := y') (by omega) (by omega)).2 (by decide) (by decide) ?_
    have := iv_le hx
    have := iv_le hy
    omega
theorem add_zero_r (hx : x ≤ 9218868437227405312) : fadd x 0 = x := by
  by_cases h : x = 9218868437227405312
  · subst h
    unfold fadd
    rw [add_end (by decide) (by decide) (.inl rfl)]
    rfl
  · have := (add_is (x := x) (y := 0) (by omega) (by decide)).2
    rw [iv_zero, Nat.add_zero] at this
    exact this.eq (IsR.exact hx) (by decide) (by decide) rfl
theorem add_zero_l (hy : y ≤ 9218868437227405312) : fadd 0 y = y := by
  by_cases h : y = 9218868437227405312
  · subst h
    unfold fadd
    rw [add_end (by decide) (by decide) (.inr rfl)]
    rfl
  · have := (add_is (x := 0) (y := y) (by decide) (by omega)).2
    rw [iv_zero, Nat.zero_add] at this
    exact this.eq (IsR.exact hy) (by decide) (by decide) rfl
theorem add_ge_l (hx : x ≤ 9218868437227405312) (hy : y ≤ 9218868437227405312) : x ≤ fadd x y := by
  have := add_mono hx hy (Nat.le_refl x) (Nat.zero_le y)
  rw [add_zero_r hx] at this
  exact this
theorem add_ge_r (hx : x ≤ 9218868437227405312) (hy : y ≤ 9218868437227405312) : y ≤ fadd x y := by
  have := add_mono hx hy (Nat.zero_le x) (Nat.le_refl y)
  rw [add_zero_l hy] at this
  exact this
theorem sub_is (hx : x < 9218868437227405312) (hxy : y ≤ x) : double.sub x y = some (fsub x y) ∧ IsR (fsub x y) (iv x - iv y) 1 := by
  obtain ⟨z, h1, h2⟩ := sub_fin hx (Nat.lt_of_le_of_lt hxy hx) hxy
  have : fsub x y = z := by unfold fsub; rw [h1]; rfl
  rw [this]
  exact ⟨h1, h2⟩
theorem sub_le (hx : x < 9218868437227405312) (hxy : y ≤ x) : fsub x y ≤ x :=
  (sub_is hx hxy).2.le (IsR.exact (Nat.le_of_lt hx)) (by decide) (by decide) (by omega)
theorem sub_mono (hx' : x' < 9218868437227405312) (hx : x ≤ x') (hy : y' ≤ y) (hxy : y ≤ x) : fsub x y ≤ fsub x' y' := by
  refine (sub_is (Nat.lt_of_le_of_lt hx hx') hxy).2.le (sub_is hx' (by omega)).2 (by decide) (by decide) ?_
  have := iv_le hx
  have := iv_le hy
  omega
theorem mul_is (hx : x < 9218868437227405312) (hy : y < 9218868437227405312) : double.mul x y = some (fmul x y) ∧ IsR (fmul x y) (iv x * iv y) UT := by
  obtain ⟨z, h1, h2⟩ := mul_fin hx hy
  have : fmul x y = z := by unfold fmul; rw [h1]; rfl
  rw [this]
  exact ⟨h1, h2⟩
theorem mul_mono (hx' : x' < 9218868437227405312) (hy' : y' < 9218868437227405312) (hx : x ≤ x') (hy : y ≤ y') : fmul x y ≤ fmul x' y' :=
  (mul_is (Nat.lt_of_le_of_lt hx hx') (Nat.lt_of_le_of_lt hy hy')).2.le (mul_is hx' hy').2 UT_pos UT_pos (Nat.mul_le_mul_right _ (Nat.mul_le_mul (iv_le hx) (iv_le hy)))
theorem mul_le (hx : x < 9218868437227405312) (hy : y ≤ F1) : fmul x y ≤ x := by
  refine (mul_is hx (Nat.lt_of_le_of_lt hy F1_lt)).2.le (IsR.exact (Nat.le_of_lt hx)) UT_pos (by decide) ?_
  rw [Nat.mul_one]
  have := iv_le hy
  rw [iv_one] at this
  exact Nat.mul_le_mul_left _ this
theorem div_is (hx : x < 9218868437227405312) (hy : y < 9218868437227405312) (y0 : 0 < y) : double.div x y = some (fdiv x y) ∧ IsR (fdiv x y) (iv x * UT) (iv y) := by
  obtain ⟨z, h1, h2⟩ := div_fin hx hy y0
  have : fdiv x y = z := by unfold fdiv; rw [h1]; rfl
  rw [this]
  exact ⟨h1, h2⟩
theorem iv_pos (y0 : 0 < y) : 0 < iv y := Nat.lt_of_le_of_lt (Nat.zero_le _) (iv_lt y0)
theorem div_mono (hx' : x' < 9218868437227405312) (hy : y < 9218868437227405312) (y0 : 0 < y') (hx : x ≤ x') (hyy : y' ≤ y) : fdiv x y ≤ fdiv x' y' :=
  (div_is (Nat.lt_of_le_of_lt hx hx') hy (by omega)).2.le (div_is hx' (Nat.lt_of_le_of_lt hyy hy) y0).2 (iv_pos (by omega)) (iv_pos y0) (Nat.mul_le_mul (Nat.mul_le_mul_right _ (iv_le hx)) (iv_le hyy))
theorem div_one (hy : y < 9218868437227405312) (y0 : 0 < y) (hx : x ≤ y) : fdiv x y ≤ F1 := by
  refine (div_is (Nat.lt_of_le_of_lt hx hy) hy y0).2.le (IsR.exact (Nat.le_of_lt F1_lt)) (iv_pos y0) (by decide) ?_
  rw [Nat.mul_one, iv_one, Nat.mul_comm]
  exact Nat.mul_le_mul_left _ (iv_le hx)
end
/-! integers -/
theorem i2f_is {n : Int} (h : 0 ≤ n) : IsR (i2f n) (n.toNat * UT) 1 := by
  have := int_fin n.toNat
  rw [show (n.toNat : Int) = n by omega] at this
  exact this
theorem i2f_mono {a b : Int} (h0 : 0 ≤ a) (h : a ≤ b) : i2f a ≤ i2f b :=
  (i2f_is h0).le (i2f_is (by omega)) (by decide) (by decide) (Nat.mul_le_mul_right _ (Nat.mul_le_mul_right _ (by omega)))
theorem i2f_max : i2f 9223372036854775807 = 4890909195324358656 := by decide +kernel
theorem i2f_le {a : Int} (h0 : 0 ≤ a) (h : a ≤ 9223372036854775807) : i2f a ≤ 4890909195324358656 := by
  rw [← i2f_max]
  exact i2f_mono h0 h
theorem i2f_lt {a : Int} (h0 : 0 ≤ a) (h : a ≤ 9223372036854775807) : i2f a < 9218868437227405312 := by
  have := i2f_le h0 h
  omega
/-! clean -/
def cln (x : Nat) : Nat := if isN x then 0 else if key x ≤ 0 then 0 else if key F1 < key x then F1 else x
theorem cln_le {x : Nat} (hx : x < 18446744073709551616) : cln x ≤ F1 := by
  unfold cln
  split
  · exact Nat.zero_le _
  · rename_i h
    split
    · exact Nat.zero_le _
    · split
      · exact Nat.le_refl _
      · rename_i h1 h2
        obtain ⟨a, b⟩ := above_zero hx (by simpa using h) (by omega)
        rw [key_pos b, key_pos (Nat.le_of_lt F1_lt)] at h2
        have : ¬ iv F1 < iv x := by omega
        rw [iv_lt_iff] at this
        omega
/-- of what is not below nought it is the lesser one of that and one -/
theorem cln_pos {x : Nat} (hx : x ≤ 9218868437227405312) : cln x = min x F1 := by
  unfold cln
  rw [isN_pos hx, key_pos hx, key_pos (Nat.le_of_lt F1_lt)]
  simp only [Bool.false_eq_true, if_false]
  by_cases h0 : x = 0
  · subst h0
    rw [iv_zero]
    simp
  · have h1 := iv_pos (y := x) (by omega)
    rw [if_neg (by omega)]
    by_cases h2 : F1 < x
    · have := iv_lt h2
      rw [if_pos (by omega)]
      omega
    · have := iv_le (show x ≤ F1 by omega)
      rw [if_neg (by omega)]
      omega
/-! the guess -/
def gs (a c : Int) : Nat := if a < 0 ∨ c < a then 0 else fdiv (fsub (fadd (i2f c) F1) (i2f a)) (fadd (i2f c) F1)
theorem all_max : fadd 4890909195324358656 F1 = 4890909195324358656 := by decide +kernel
theorem gs_facts {a c : Int} (h0 : 0 ≤ a) (hac : a ≤ c) (hc : c ≤ 9223372036854775807) : double.add (i2f c) F1 = some (fadd (i2f c) F1) ∧ double.sub (fadd (i2f c) F1) (i2f a) = some (fsub (fadd (i2f c) F1) (i2f a)) ∧ double.div (fsub (fadd (i2f c) F1) (i2f a)) (fadd (i2f c) F1) = some (fdiv (fsub (fadd (i2f c) F1) (i2f a)) (fadd (i2f c) F1)) ∧ fdiv (fsub (fadd (i2f c) F1) (i2f a)) (fadd (i2f c) F1) ≤ F1 ∧ fadd (i2f c) F1 < 9218868437227405312 ∧ F1 ≤ fadd (i2f c) F1 ∧ i2f a ≤ fadd (i2f c) F1 := by
  have c1 := i2f_le (show 0 ≤ c by omega) hc
  have a1 := i2f_mono h0 hac
  have w1 := F1_lt
  have s1 := add_is (x := i2f c) (y := F1) (by omega) w1
  have b1 : fadd (i2f c) F1 ≤ 4890909195324358656 := by
    have := add_mono (x := i2f c) (y := F1) (x' := 4890909195324358656) (y' := F1) (by decide) (by decide) c1 (Nat.le_refl _)
    rw [all_max] at this
    exact this
  have g1 := add_ge_l (x := i2f c) (y := F1) (by omega) (by omega)
  have g2 := add_ge_r (x := i2f c) (y := F1) (by omega) (by omega)
  have w0 : 0 < F1 := by decide
  have s2 := sub_is (x := fadd (i2f c) F1) (y := i2f a) (by omega) (by omega)
  have l2 := sub_le (x := fadd (i2f c) F1) (y := i2f a) (by omega) (by omega)
  have s3 := div_is (x := fsub (fadd (i2f c) F1) (i2f a)) (y := fadd (i2f c) F1) (by omega) (by omega) (by omega)
  exact ⟨s1.1, s2.1, s3.1, div_one (by omega) (by omega) l2, by omega, g2, by omega⟩
theorem gs_le (a c : Int) (hc : c ≤ 9223372036854775807) : gs a c ≤ F1 := by
  unfold gs
  split
  · exact Nat.zero_le _
  · exact (gs_facts (by omega) (by omega) hc).2.2.2.1
/-- of a greater amount it is not greater -/
theorem gs_mono {a b c : Int} (h0 : 0 ≤ a) (hab : a ≤ b) (hc : c ≤ 9223372036854775807) : gs b c ≤ gs a c := by
  by_cases h : c < b
  · unfold gs
    rw [if_pos (.inr h)]
    exact Nat.zero_le _
  · have f1 := gs_facts h0 (show a ≤ c by omega) hc
    have f2 := gs_facts (show 0 ≤ b by omega) (show b ≤ c by omega) hc
    unfold gs
    rw [if_neg (by omega), if_neg (by omega)]
    have w0 : 0 < F1 := by decide
    have hs := sub_le (x := fadd (i2f c) F1) (y := i2f a) f1.2.2.2.2.1 f1.2.2.2.2.2.2
    exact div_mono (by omega) f1.2.2.2.2.1 (by omega) (sub_mono f1.2.2.2.2.1 (Nat.le_refl _) (i2f_mono h0 hab) f2.2.2.2.2.2.2) (Nat.le_refl _)
end Go.Proofs.Ytgnkcmmpbohafaa
