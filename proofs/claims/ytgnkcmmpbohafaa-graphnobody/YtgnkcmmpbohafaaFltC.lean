/- Doubles that are not below nought: sums, differences, products, integers; how they are ordered. -/
import Derived.Test.YtgnkcmmpbohafaaFltB
import Derived.Laws.FloatArith
namespace Go.Proofs.Ytgnkcmmpbohafaa
open Ieee
set_option linter.unusedVariables false
set_option linter.unusedSimpArgs false

/-- one, in units of the least number -/
def UK : Nat := 1074
theorem UK_is : UK = 1074 := rfl
def UT : Nat := 2 ^ UK
theorem UT_pos : 0 < UT := Nat.two_pow_pos _
/-- z is A / T (in units of the least number), rounded -/
def IsR (z A T : Nat) : Prop := z ≤ 9218868437227405312 ∧ ∀ r, r < 9218868437227405312 → (r < z ↔ Above r A T)
theorem Above.mono {r A T A' T' : Nat} (hT : 0 < T) (hT' : 0 < T') (h : A * T' ≤ A' * T) (ha : Above r A T) : Above r A' T' := by
  unfold Above at ha ⊢
  generalize iv r + iv (r + 1) = S at *
  have h2 : 2 * A * T' ≤ 2 * A' * T := by rw [Nat.mul_assoc, Nat.mul_assoc]; omega
  rcases ha with ha | ⟨ha, ho⟩
  · left
    refine Nat.lt_of_mul_lt_mul_right (a := T) ?_
    have := Nat.mul_lt_mul_of_pos_right ha hT'
    rw [Nat.mul_right_comm] at this
    exact Nat.lt_of_lt_of_le this h2
  · have e1 : S * T' * T ≤ 2 * A' * T := by rw [Nat.mul_right_comm, ha]; exact h2
    have := Nat.le_of_mul_le_mul_right e1 hT
    by_cases q : S * T' = 2 * A'
    · exact .inr ⟨q, ho⟩
    · exact .inl (by omega)
theorem IsR.le {z A T z' A' T' : Nat} (h : IsR z A T) (h' : IsR z' A' T') (hT : 0 < T) (hT' : 0 < T') (hl : A * T' ≤ A' * T) : z ≤ z' := by
  by_cases q : z ≤ z'
  · exact q
  · have h1 := h.1
    have := (h'.2 z' (by omega)).2 (Above.mono hT hT' hl ((h.2 z' (by omega)).1 (by omega)))
    omega
theorem IsR.eq {z A T z' A' T' : Nat} (h : IsR z A T) (h' : IsR z' A' T') (hT : 0 < T) (hT' : 0 < T') (hl : A * T' = A' * T) : z = z' :=
  Nat.le_antisymm (h.le h' hT hT' (Nat.le_of_eq hl)) (h'.le h hT' hT (Nat.le_of_eq hl.symm))
theorem IsR.exact {x : Nat} (h : x ≤ 9218868437227405312) : IsR x (iv x) 1 := by
  refine ⟨h, fun r hr => ?_⟩
  unfold Above
  rw [Nat.mul_one]
  constructor
  · intro hx
    have := iv_step r
    have := iv_le (show r + 1 ≤ x by omega)
    omega
  · intro hx
    by_cases q : r < x
    · exact q
    · have := iv_step r
      have := iv_le (show x ≤ r by omega)
      omega
theorem near_le (m : Nat) (p : Int) : double.nearest false m p ≤ 9218868437227405312 := by
  unfold Format.nearest
  split
  · unfold Format.word; simp
  · dsimp only
    unfold Format.word
    rw [d_inf]
    simp only [Bool.false_eq_true, if_false]
    exact Nat.min_le_right ..
theorem near_is (m : Nat) (p : Int) : IsR (double.nearest false m p) (m * 2 ^ (p + 1074).toNat) (2 ^ (-1074 - p).toNat) := ⟨near_le m p, fun r hr => near_spec m p r hr⟩
theorem near_up (m k : Nat) : IsR (double.nearest false m (-1074 + (k : Int))) (m * 2 ^ k) 1 := by
  have := near_is m (-1074 + (k : Int))
  rw [show (-1074 + (k : Int) + 1074).toNat = k by omega, show (-1074 - (-1074 + (k : Int))).toNat = 0 by omega] at this
  exact this

/-- a word below infinity is a number -/
theorem read_fin (x : Nat) (hx : x < 9218868437227405312) : ∃ m k : Nat, double.read x = .number false m (-1074 + (k : Int)) ∧ m * 2 ^ k = iv x := by
  unfold Format.read
  rw [d_sign, d_binade, d_inf, d_least]
  dsimp only
  rw [show x / 9223372036854775808 = 0 from Nat.div_eq_of_lt (by omega), show x % 9223372036854775808 = x from Nat.mod_eq_of_lt (by omega)]
  by_cases h : x < 4503599627370496
  · rw [if_pos h]
    exact ⟨x, 0, rfl, by unfold iv; rw [if_pos h]; simp⟩
  · rw [if_neg h, if_pos hx]
    exact ⟨4503599627370496 + x % 4503599627370496, x / 4503599627370496 - 1, rfl, by unfold iv; rw [if_neg h]⟩
theorem read_inf : double.read 9218868437227405312 = .infinity false := by decide +kernel
theorem sgp (m up : Nat) : signed false m up = ((m * 2 ^ up : Nat) : Int) := by
  unfold signed
  simp [Nat.shiftLeft_eq]
theorem sgm (m up : Nat) : signed true m up = -((m * 2 ^ up : Nat) : Int) := by
  unfold signed
  simp [Nat.shiftLeft_eq]
theorem base_at (m i j : Nat) (h : j ≤ i) : m * 2 ^ (-1074 + (i : Int) - (-1074 + (j : Int))).toNat * 2 ^ j = m * 2 ^ i := by
  rw [show (-1074 + (i : Int) - (-1074 + (j : Int))).toNat = i - j by omega, Nat.mul_assoc, ← Nat.pow_add, show i - j + j = i by omega]
theorem min_at (i j : Nat) : min (-1074 + (i : Int)) (-1074 + (j : Int)) = -1074 + ((min i j : Nat) : Int) := by omega
theorem add_fin {x y : Nat} (hx : x < 9218868437227405312) (hy : y < 9218868437227405312) : ∃ z, double.add x y = some z ∧ IsR z (iv x + iv y) 1 := by
  obtain ⟨m, i, e1, v1⟩ := read_fin x hx
  obtain ⟨n, j, e2, v2⟩ := read_fin y hy
  unfold Format.add
  rw [e1, e2]
  unfold Datum.sum
  dsimp only
  rw [min_at, sgp, sgp]
  refine ⟨_, rfl, ?_⟩
  generalize hb : min i j = b
  have hi := base_at m i b (by omega)
  have hj := base_at n j b (by omega)
  generalize m * 2 ^ (-1074 + (i : Int) - (-1074 + (b : Int))).toNat = M at *
  generalize n * 2 ^ (-1074 + (j : Int) - (-1074 + (b : Int))).toNat = N at *
  have hs : (if (M : Int) + (N : Int) = 0 then false && false else decide ((M : Int) + (N : Int) < 0)) = false := by
    split
    · rfl
    · exact decide_eq_false (by omega)
  rw [hs, show ((M : Int) + (N : Int)).natAbs = M + N by omega]
  have := near_up (M + N) b
  rw [Nat.add_mul, hi, hj, v1, v2] at this
  exact this
theorem sub_fin {x y : Nat} (hx : x < 9218868437227405312) (hy : y < 9218868437227405312) (hxy : y ≤ x) : ∃ z, double.sub x y = some z ∧ IsR z (iv x - iv y) 1 := by
  obtain ⟨m, i, e1, v1⟩ := read_fin x hx
  obtain ⟨n, j, e2, v2⟩ := read_fin y hy
  have hv := iv_le hxy
  unfold Format.sub
  rw [e1, e2]
  unfold Datum.opposite Datum.sum
  dsimp only
  rw [min_at, Bool.not_false, sgp, sgm]
  refine ⟨_, rfl, ?_⟩
  generalize hb : min i j = b
  have hi := base_at m i b (by omega)
  have hj := base_at n j b (by omega)
  generalize m * 2 ^ (-1074 + (i : Int) - (-1074 + (b : Int))).toNat = M at *
  generalize n * 2 ^ (-1074 + (j : Int) - (-1074 + (b : Int))).toNat = N at *
  have hMN : N ≤ M := by
    rw [← v1, ← v2, ← hi, ← hj] at hv
    exact Nat.le_of_mul_le_mul_right hv (Nat.two_pow_pos b)
  have hs : (if (M : Int) + -(N : Int) = 0 then false && true else decide ((M : Int) + -(N : Int) < 0)) = false := by
    split
    · rfl
    · exact decide_eq_false (by omega)
  rw [hs, show ((M : Int) + -(N : Int)).natAbs = M - N by omega]
  have := near_up (M - N) b
  rw [Nat.sub_mul, hi, hj, v1, v2] at this
  exact this
theorem mul_fin {x y : Nat} (hx : x < 9218868437227405312) (hy : y < 9218868437227405312) : ∃ z, double.mul x y = some z ∧ IsR z (iv x * iv y) UT := by
  obtain ⟨m, i, e1, v1⟩ := read_fin x hx
  obtain ⟨n, j, e2, v2⟩ := read_fin y hy
  unfold Format.mul
  rw [e1, e2]
  unfold Datum.product
  refine ⟨_, rfl, ?_⟩
  show IsR (double.nearest false (m * n) (-1074 + (i : Int) + (-1074 + (j : Int)))) _ _
  have := near_is (m * n) (-1074 + (i : Int) + (-1074 + (j : Int)))
  refine ⟨this.1, fun r hr => ?_⟩
  rw [this.2 r hr]
  have hv : iv x * iv y = m * n * 2 ^ (i + j) := by rw [← v1, ← v2, Nat.pow_add]; simp [Nat.mul_comm, Nat.mul_left_comm, Nat.mul_assoc]
  have h1 := Nat.two_pow_pos (-1074 - (-1074 + (i : Int) + (-1074 + (j : Int)))).toNat
  have h2 := UT_pos
  have hU := UK_is
  have key : m * n * 2 ^ (-1074 + (i : Int) + (-1074 + (j : Int)) + 1074).toNat * UT = iv x * iv y * 2 ^ (-1074 - (-1074 + (i : Int) + (-1074 + (j : Int)))).toNat := by
    unfold UT
    rw [hv, Nat.mul_assoc (m * n), Nat.mul_assoc (m * n), ← Nat.pow_add, ← Nat.pow_add]
    congr 2
    omega
  exact ⟨Above.mono h1 h2 (Nat.le_of_eq key), Above.mono h2 h1 (Nat.le_of_eq key.symm)⟩
/-- an integer as a double -/
theorem int_fin (n : Nat) : IsR (FloatKind.f64.nearest (n : Int)) (n * UT) 1 := by
  show IsR (double.write (.number (decide ((n : Int) < 0)) (n : Int).natAbs 0)) _ _
  rw [show decide ((n : Int) < 0) = false from decide_eq_false (by omega), show (n : Int).natAbs = n by omega]
  have := near_up n UK
  rw [show -1074 + (UK : Int) = 0 by rw [UK_is]; rfl] at this
  exact this
/-- how two are ordered -/
theorem order_fin {x y : Nat} (hx : x ≤ 9218868437227405312) (hy : y ≤ 9218868437227405312) : double.order x y = some (compare x y) := by
  unfold Format.order
  by_cases h1 : x = 9218868437227405312
  · subst h1
    rw [read_inf]
    by_cases h2 : y = 9218868437227405312
    · subst h2
      rw [read_inf]
      decide +kernel
    · obtain ⟨n, j, e2, v2⟩ := read_fin y (by omega)
      rw [e2]
      show some Ordering.gt = some (compare _ _)
      rw [Nat.compare_eq_gt.2 (by omega)]
  · obtain ⟨m, i, e1, v1⟩ := read_fin x (by omega)
    rw [e1]
    by_cases h2 : y = 9218868437227405312
    · subst h2
      rw [read_inf]
      show some Ordering.lt = some (compare _ _)
      rw [Nat.compare_eq_lt.2 (by omega)]
    · obtain ⟨n, j, e2, v2⟩ := read_fin y (by omega)
      rw [e2]
      unfold Datum.order
      dsimp only
      rw [min_at, sgp, sgp]
      generalize hb : min i j = b
      have hi := base_at m i b (by omega)
      have hj := base_at n j b (by omega)
      generalize m * 2 ^ (-1074 + (i : Int) - (-1074 + (b : Int))).toNat = M at *
      generalize n * 2 ^ (-1074 + (j : Int) - (-1074 + (b : Int))).toNat = N at *
      have hB := Nat.two_pow_pos b
      rw [v1] at hi
      rw [v2] at hj
      congr 1
      rcases Nat.lt_trichotomy x y with h | h | h
      · have hv := iv_lt h
        rw [← hi, ← hj] at hv
        have := Nat.lt_of_mul_lt_mul_right hv
        rw [Nat.compare_eq_lt.2 h]
        exact Int.compare_eq_lt.2 (by omega)
      · subst h
        rw [← hj] at hi
        have := Nat.eq_of_mul_eq_mul_right hB hi
        subst this
        rw [Nat.compare_eq_eq.2 rfl]
        exact Int.compare_eq_eq.2 rfl
      · have hv := iv_lt h
        rw [← hi, ← hj] at hv
        have := Nat.lt_of_mul_lt_mul_right hv
        rw [Nat.compare_eq_gt.2 h]
        exact Int.compare_eq_gt.2 (by omega)
end Go.Proofs.Ytgnkcmmpbohafaa
