/- Doubles by their rungs: what a rung stands for, and that to round is to count the midpoints below. -/
import Ieee.Arith
import Derived.Laws.FloatBits
namespace Go.Proofs.Ytgnkcmmpbohafaa
open Ieee
set_option linter.unusedVariables false

theorem d_binade : double.binade = 4503599627370496 := by decide +kernel
theorem d_inf : double.infRung = 9218868437227405312 := by decide +kernel
theorem d_least : double.leastPlace = -1074 := by decide +kernel
theorem d_sign : double.signWeight = 9223372036854775808 := by decide +kernel
theorem d_frac : double.fractionBits = 52 := rfl

/-- what a rung stands for, in units of the least number -/
def iv (x : Nat) : Nat := if x < 4503599627370496 then x else (4503599627370496 + x % 4503599627370496) * 2 ^ (x / 4503599627370496 - 1)
theorem iv_at (e k : Nat) (hk : k ≤ 9007199254740992) (h : e = 0 ∨ 4503599627370496 ≤ k) : iv (e * 4503599627370496 + k) = k * 2 ^ e := by
  unfold iv
  by_cases h1 : k < 4503599627370496
  · have he : e = 0 := by omega
    subst he
    rw [if_pos (by omega)]
    simp
  · rw [if_neg (by omega)]
    by_cases h2 : k = 9007199254740992
    · subst h2
      rw [show (e * 4503599627370496 + 9007199254740992) % 4503599627370496 = 0 by omega, show (e * 4503599627370496 + 9007199254740992) / 4503599627370496 - 1 = e + 1 by omega, Nat.pow_succ]
      omega
    · rw [show (e * 4503599627370496 + k) % 4503599627370496 = k - 4503599627370496 by omega, show (e * 4503599627370496 + k) / 4503599627370496 - 1 = e by omega, show 4503599627370496 + (k - 4503599627370496) = k by omega]
theorem iv_split (x : Nat) : ∃ e k, x = e * 4503599627370496 + k ∧ k < 9007199254740992 ∧ (e = 0 ∨ 4503599627370496 ≤ k) := by
  by_cases h : x < 4503599627370496
  · exact ⟨0, x, by omega, by omega, .inl rfl⟩
  · exact ⟨x / 4503599627370496 - 1, x % 4503599627370496 + 4503599627370496, by omega, by omega, .inr (by omega)⟩
theorem iv_step (x : Nat) : iv x < iv (x + 1) := by
  obtain ⟨e, k, rfl, hk, h⟩ := iv_split x
  rw [iv_at e k (by omega) h, Nat.add_assoc, iv_at e (k + 1) (by omega) (by omega)]
  exact Nat.mul_lt_mul_of_pos_right (by omega) (Nat.two_pow_pos _)
theorem iv_lt {x y : Nat} (h : x < y) : iv x < iv y := by
  induction y with
  | zero => omega
  | succ y ih =>
    by_cases e : x = y
    · subst e; exact iv_step x
    · exact Nat.lt_trans (ih (by omega)) (iv_step y)
theorem iv_le {x y : Nat} (h : x ≤ y) : iv x ≤ iv y := by
  by_cases e : x = y
  · subst e; exact Nat.le_refl _
  · exact Nat.le_of_lt (iv_lt (by omega))
theorem iv_lt_iff {x y : Nat} : iv x < iv y ↔ x < y := ⟨fun h => by
  by_cases e : y ≤ x
  · have := iv_le e
    omega
  · omega, iv_lt⟩
theorem iv_inj {x y : Nat} (h : iv x = iv y) : x = y := by
  by_cases h1 : x < y
  · have := iv_lt h1
    omega
  · by_cases h2 : y < x
    · have := iv_lt h2
      omega
    · omega

/-- to the nearest, and between two to the even one -/
theorem cut_spec (n d c : Nat) (hc : Toward.even.cut false n d = c) : 2 * n ≤ (2 * c + 1) * 2 ^ d ∧ (2 * n = (2 * c + 1) * 2 ^ d → c % 2 = 0) ∧ 2 * c * 2 ^ d ≤ 2 * n + 2 ^ d ∧ (2 * c * 2 ^ d = 2 * n + 2 ^ d → c % 2 = 0) := by
  subst hc
  unfold Toward.cut
  dsimp only
  by_cases h : d ≤ n.log2 + 2
  · rw [Nat.min_eq_left h, Nat.shiftLeft_eq, Nat.one_mul]
    have hG := Nat.two_pow_pos d
    generalize 2 ^ d = G at *
    have e := Nat.div_add_mod n G
    have l := Nat.mod_lt n hG
    generalize n / G = low at *
    generalize n % G = rest at *
    rw [Nat.mul_comm] at e
    cases hb : (decide (G < 2 * rest) || (G == 2 * rest && low % 2 == 1)) with
    | false =>
      simp only [Bool.or_eq_false_iff, decide_eq_false_iff_not, Bool.and_eq_false_iff, beq_eq_false_iff_ne] at hb
      simp only [Bool.toNat_false, Nat.add_zero]
      rw [Nat.add_mul, Nat.mul_assoc, Nat.one_mul]
      generalize low * G = P at *
      omega
    | true =>
      simp only [Bool.or_eq_true, decide_eq_true_eq, Bool.and_eq_true, beq_iff_eq] at hb
      simp only [Bool.toNat_true]
      rw [Nat.add_mul, Nat.mul_assoc, Nat.add_mul, Nat.one_mul]
      generalize low * G = P at *
      omega
  · rw [Nat.min_eq_right (by omega), Nat.shiftLeft_eq, Nat.one_mul]
    have h1 : n < 2 ^ (n.log2 + 1) := Nat.lt_log2_self
    have h2 : 2 ^ (n.log2 + 2) = 2 * 2 ^ (n.log2 + 1) := by rw [Nat.pow_succ _ (n.log2 + 1)]; omega
    have h3 : 2 ^ (n.log2 + 2) ≤ 2 ^ d := Nat.pow_le_pow_right (by decide) (by omega)
    have hG := Nat.two_pow_pos (n.log2 + 2)
    generalize 2 ^ (n.log2 + 2) = G at *
    have e1 : n / G = 0 := Nat.div_eq_of_lt (by omega)
    have e2 : n % G = n := Nat.mod_eq_of_lt (by omega)
    rw [e1, e2]
    have hb : (decide (G < 2 * n) || (G == 2 * n && 0 % 2 == 1)) = false := by
      simp
      omega
    rw [hb]
    simp only [Bool.toNat_false, Nat.add_zero, Nat.mul_zero, Nat.zero_mul, Nat.zero_add, Nat.one_mul]
    omega
end Go.Proofs.Ytgnkcmmpbohafaa
