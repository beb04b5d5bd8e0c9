/- Doubles: the word nearest to a number counts the midpoints below it. -/
import Derived.Test.YtgnkcmmpbohafaaFltA
namespace Go.Proofs.Ytgnkcmmpbohafaa
open Ieee
set_option linter.unusedVariables false

/-- the number A / T (in units of the least one) lies above the midpoint behind rung r, or on it, and r is odd -/
def Above (r A T : Nat) : Prop := (iv r + iv (r + 1)) * T < 2 * A ∨ ((iv r + iv (r + 1)) * T = 2 * A ∧ r % 2 = 1)

theorem sum_lt {r s : Nat} (h : r < s) : iv r + iv (r + 1) < iv s + iv (s + 1) := by
  have := iv_lt h
  have := iv_lt (show r + 1 < s + 1 by omega)
  omega
theorem sum_le {r s : Nat} (h : r ≤ s) : iv r + iv (r + 1) ≤ iv s + iv (s + 1) := by
  have := iv_le h
  have := iv_le (show r + 1 ≤ s + 1 by omega)
  omega
/-- a rung that was found by rounding at place e -/
theorem rung_above (e c A T : Nat) (hT : 0 < T) (hc : c ≤ 9007199254740992) (he : 0 < e → 4503599627370496 ≤ c ∧ 4503599627370496 * 2 ^ e * T ≤ A)
    (u1 : 2 * A ≤ (2 * c + 1) * 2 ^ e * T) (u2 : 2 * A = (2 * c + 1) * 2 ^ e * T → c % 2 = 0) (l1 : 2 * c * 2 ^ e * T ≤ 2 * A + 2 ^ e * T) (l2 : 2 * c * 2 ^ e * T = 2 * A + 2 ^ e * T → c % 2 = 0) (r : Nat) :
    r < e * 4503599627370496 + c ↔ Above r A T := by
  have hE := Nat.two_pow_pos e
  have hce : e = 0 ∨ 4503599627370496 ≤ c := by
    by_cases h : e = 0
    · exact .inl h
    · exact .inr (he (by omega)).1
  have i0 : iv (e * 4503599627370496 + c) = c * 2 ^ e := iv_at e c hc hce
  have i1 : (c + 1) * 2 ^ e ≤ iv (e * 4503599627370496 + c + 1) := by
    by_cases h : c = 9007199254740992
    · subst h
      rw [show e * 4503599627370496 + 9007199254740992 + 1 = (e + 1) * 4503599627370496 + 4503599627370497 by omega, iv_at (e + 1) 4503599627370497 (by decide) (.inr (by decide)), Nat.pow_succ]
      omega
    · rw [Nat.add_assoc, iv_at e (c + 1) (by omega) (by omega)]
      exact Nat.le_refl _
  constructor
  · intro hr
    have hc0 : 0 < c := by
      by_cases h : e = 0
      · subst h; omega
      · have := (he (by omega)).1; omega
    obtain ⟨s, hs⟩ : ∃ s, e * 4503599627370496 + c = s + 1 := ⟨e * 4503599627370496 + c - 1, by omega⟩
    have hrs : r ≤ s := by omega
    rw [hs] at i0
    -- the sum at s
    have key : (iv s + iv (s + 1)) * T < 2 * A ∨ ((iv s + iv (s + 1)) * T = 2 * A ∧ s % 2 = 1) := by
      by_cases h : e = 0 ∨ 4503599627370496 < c
      · have is : iv s = (c - 1) * 2 ^ e := by
          have := iv_at e (c - 1) (by omega) (by omega)
          rw [show e * 4503599627370496 + (c - 1) = s by omega] at this
          exact this
        obtain ⟨c', rfl⟩ : ∃ c', c = c' + 1 := ⟨c - 1, by omega⟩
        rw [is, i0, ← Nat.add_mul]
        have e1 : (c' + 1 - 1 + (c' + 1)) * 2 ^ e * T + 2 ^ e * T = 2 * (c' + 1) * 2 ^ e * T := by
          rw [← Nat.add_mul, ← Nat.succ_mul]
          congr 2
          omega
        generalize hX : (c' + 1 - 1 + (c' + 1)) * 2 ^ e * T = X at *
        generalize 2 * (c' + 1) * 2 ^ e * T = Y at *
        generalize 2 ^ e * T = Z at *
        have : s % 2 = c' % 2 := by omega
        by_cases q : X < 2 * A
        · exact .inl q
        · have q2 := l2 (by omega)
          exact .inr ⟨by omega, by omega⟩
      · have h0 : 0 < e := by omega
        have hcb : c = 4503599627370496 := by have := (he h0).1; omega
        left
        have hl := iv_step s
        have hA := (he h0).2
        have hp : (iv s + iv (s + 1)) < 2 * (c * 2 ^ e) := by omega
        have := Nat.mul_lt_mul_of_pos_right hp hT
        rw [hcb, Nat.mul_assoc 2] at this
        omega
    by_cases q : r = s
    · subst q; exact key
    · have := Nat.mul_lt_mul_of_pos_right (sum_lt (show r < s by omega)) hT
      left
      rcases key with k | k <;> omega
  · intro hab
    by_cases hr : r < e * 4503599627370496 + c
    · exact hr
    · exfalso
      have hs := sum_le (show e * 4503599627370496 + c ≤ r by omega)
      have s0 : (2 * c + 1) * 2 ^ e ≤ iv (e * 4503599627370496 + c) + iv (e * 4503599627370496 + c + 1) := by
        have : (2 * c + 1) * 2 ^ e = c * 2 ^ e + (c + 1) * 2 ^ e := by rw [← Nat.add_mul]; congr 1; omega
        omega
      have m1 := Nat.mul_le_mul_right T (Nat.le_trans s0 hs)
      rcases hab with h | ⟨h, ho⟩
      · omega
      · have heq := u2 (by omega)
        by_cases q : r = e * 4503599627370496 + c
        · omega
        · have := Nat.mul_lt_mul_of_pos_right (sum_lt (show e * 4503599627370496 + c < r by omega)) hT
          have := Nat.mul_le_mul_right T s0
          omega

/-- to round is to count midpoints: of mag * 2 ^ place -/
theorem near_spec (m : Nat) (p : Int) (r : Nat) (hr : r < 9218868437227405312) :
    r < double.nearest false m p ↔ Above r (m * 2 ^ (p + 1074).toNat) (2 ^ (-1074 - p).toNat) := by
  unfold Format.nearest
  by_cases hm : m = 0
  · subst hm
    rw [if_pos rfl]
    have := iv_step r
    have hT := Nat.two_pow_pos (-1074 - p).toNat
    have : 0 < (iv r + iv (r + 1)) * 2 ^ (-1074 - p).toNat := Nat.mul_pos (by omega) hT
    unfold Format.word Above
    rw [Nat.zero_mul]
    simp
    omega
  · rw [if_neg hm]
    dsimp only
    rw [d_frac, d_least, d_binade, d_inf]
    unfold Format.word
    simp only [Bool.false_eq_true, if_false]
    obtain ⟨last, hl⟩ : ∃ last, last = max (p + (m.log2 : Int) - (52 : Nat)) (-1074) := ⟨_, rfl⟩
    rw [← hl]
    have hlast : -1074 ≤ last := by omega
    obtain ⟨e, he⟩ : ∃ e : Nat, (last - -1074).toNat = e := ⟨_, rfl⟩
    obtain ⟨d, hd⟩ : ∃ d : Nat, (last - p).toNat = d := ⟨_, rfl⟩
    obtain ⟨f, hf⟩ : ∃ f : Nat, (p - last).toNat = f := ⟨_, rfl⟩
    obtain ⟨t, ht⟩ : ∃ t : Nat, (-1074 - p).toNat = t := ⟨_, rfl⟩
    obtain ⟨a, ha⟩ : ∃ a : Nat, (p + 1074).toNat = a := ⟨_, rfl⟩
    rw [he, hd, hf, ht, ha, Nat.shiftLeft_eq]
    obtain ⟨c, hc⟩ : ∃ c, Toward.even.cut false (m * 2 ^ f) d = c := ⟨_, rfl⟩
    rw [hc]
    obtain ⟨c1, c2, c3, c4⟩ := cut_spec _ _ _ hc
    have hexp : a + d = f + t + e := by omega
    have hlo : 2 ^ m.log2 ≤ m := Nat.log2_self_le hm
    have hhi : m < 2 ^ (m.log2 + 1) := Nat.lt_log2_self
    have hD := Nat.two_pow_pos d
    have hT := Nat.two_pow_pos t
    have hE := Nat.two_pow_pos e
    -- cross multiplied
    have cross : m * 2 ^ a * 2 ^ d = m * 2 ^ f * (2 ^ e * 2 ^ t) := by
      rw [Nat.mul_assoc, ← Nat.pow_add, hexp, Nat.pow_add, Nat.pow_add, Nat.mul_assoc m, Nat.mul_assoc (2 ^ f), Nat.mul_comm (2 ^ t)]
    have nhi : m * 2 ^ f < 9007199254740992 * 2 ^ d := by
      have h1 : m * 2 ^ f < 2 ^ (m.log2 + 1) * 2 ^ f := Nat.mul_lt_mul_of_pos_right hhi (Nat.two_pow_pos f)
      rw [← Nat.pow_add] at h1
      have h2 : 2 ^ (m.log2 + 1 + f) ≤ 2 ^ (53 + d) := Nat.pow_le_pow_right (by decide) (by omega)
      rw [Nat.pow_add 2 53 d] at h2
      exact Nat.lt_of_lt_of_le h1 h2
    have nlo : 0 < e → 4503599627370496 * 2 ^ d ≤ m * 2 ^ f := fun h0 => by
      have h1 : 2 ^ m.log2 * 2 ^ f ≤ m * 2 ^ f := Nat.mul_le_mul_right _ hlo
      rw [← Nat.pow_add] at h1
      have h2 : 2 ^ (52 + d) ≤ 2 ^ (m.log2 + f) := Nat.pow_le_pow_right (by decide) (by omega)
      rw [Nat.pow_add 2 52 d] at h2
      exact Nat.le_trans h2 h1
    have up : ∀ {x y : Nat}, x * 2 ^ d ≤ y * (m * 2 ^ f) → x * (2 ^ e * 2 ^ t) ≤ y * (m * 2 ^ a) := fun {x y} h => by
      refine Nat.le_of_mul_le_mul_right (c := 2 ^ d) ?_ hD
      have h1 := Nat.mul_le_mul_right (2 ^ e * 2 ^ t) h
      rw [Nat.mul_assoc y, cross, ← Nat.mul_assoc y]
      rw [Nat.mul_right_comm]
      exact h1
    have dn : ∀ {x y : Nat}, y * (m * 2 ^ f) ≤ x * 2 ^ d → y * (m * 2 ^ a) ≤ x * (2 ^ e * 2 ^ t) := fun {x y} h => by
      refine Nat.le_of_mul_le_mul_right (c := 2 ^ d) ?_ hD
      have h1 := Nat.mul_le_mul_right (2 ^ e * 2 ^ t) h
      rw [Nat.mul_assoc y, cross, ← Nat.mul_assoc y, Nat.mul_right_comm x]
      exact h1
    have same : ∀ {x y : Nat}, y * (m * 2 ^ a) = x * (2 ^ e * 2 ^ t) → y * (m * 2 ^ f) = x * 2 ^ d := fun {x y} h => by
      refine Nat.eq_of_mul_eq_mul_right (Nat.mul_pos hE hT) ?_
      rw [Nat.mul_assoc y, ← cross, ← Nat.mul_assoc y, h, Nat.mul_right_comm]
    have cle : c ≤ 9007199254740992 := by
      have : 2 * c * 2 ^ d < 18014398509481985 * 2 ^ d := by omega
      have := Nat.lt_of_mul_lt_mul_right this
      omega
    have cge : 0 < e → 4503599627370496 ≤ c := fun h0 => by
      have h1 := nlo h0
      have : 9007199254740992 * 2 ^ d ≤ (2 * c + 1) * 2 ^ d := by omega
      have := Nat.le_of_mul_le_mul_right this hD
      omega
    have main := rung_above e c (m * 2 ^ a) (2 ^ t) hT cle (fun h0 => ⟨cge h0, by
        have := up (x := 4503599627370496) (y := 1) (by rw [Nat.one_mul]; exact nlo h0)
        rw [Nat.one_mul, ← Nat.mul_assoc] at this
        exact this⟩) (by have := dn (x := 2 * c + 1) (y := 2) c1; rw [← Nat.mul_assoc (2 * c + 1)] at this; exact this)
      (fun h => c2 (same (x := 2 * c + 1) (y := 2) (by rw [h, Nat.mul_assoc])))
      (by
        by_cases h0 : c = 0
        · subst h0; simp
        · obtain ⟨b, rfl⟩ : ∃ b, c = b + 1 := ⟨c - 1, by omega⟩
          have h1 : (2 * b + 1) * 2 ^ d ≤ 2 * (m * 2 ^ f) := by
            rw [show 2 * (b + 1) = 2 * b + 1 + 1 by omega, Nat.add_mul (2 * b + 1), Nat.one_mul] at c3
            omega
          have h2 := up (x := 2 * b + 1) (y := 2) h1
          rw [show 2 * (b + 1) = 2 * b + 1 + 1 by omega, Nat.mul_assoc, Nat.add_mul (2 * b + 1), Nat.one_mul]
          omega)
      (fun h => by
        by_cases h0 : c = 0
        · subst h0; rfl
        · obtain ⟨b, rfl⟩ : ∃ b, c = b + 1 := ⟨c - 1, by omega⟩
          refine c4 ?_
          rw [show 2 * (b + 1) = 2 * b + 1 + 1 by omega, Nat.mul_assoc, Nat.add_mul (2 * b + 1), Nat.one_mul] at h
          have h3 := same (x := 2 * b + 1) (y := 2) (by omega)
          rw [show 2 * (b + 1) = 2 * b + 1 + 1 by omega, Nat.add_mul (2 * b + 1), Nat.one_mul]
          omega) r
    rw [← main]
    exact ⟨fun h => Nat.lt_of_lt_of_le h (Nat.min_le_left ..), fun h => Nat.lt_min.2 ⟨h, hr⟩⟩
end Go.Proofs.Ytgnkcmmpbohafaa
