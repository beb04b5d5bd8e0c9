/- Doubles: a quotient is rounded once. -/
import Derived.Test.YtgnkcmmpbohafaaFltC
namespace Go.Proofs.Ytgnkcmmpbohafaa
open Ieee
set_option linter.unusedVariables false
set_option linter.unusedSimpArgs false

/-- whether anything is left over tells on which side of a whole number a fraction lies -/
theorem core_div (K G n : Nat) (hn : 0 < n) : (K * n < G ↔ 2 * K < 2 * (G / n) + (G % n != 0).toNat) ∧ (K * n = G ↔ 2 * K = 2 * (G / n) + (G % n != 0).toNat) := by
  have e := Nat.div_add_mod G n
  have l := Nat.mod_lt G hn
  generalize hQ : G / n = Q at *
  generalize hR : G % n = R at *
  have s1 : R = 0 → (R != 0).toNat = 0 := fun h => by subst h; rfl
  have s2 : R ≠ 0 → (R != 0).toNat = 1 := fun h => by
    have : (R != 0) = true := by simpa using h
    rw [this]; rfl
  subst e
  rcases Nat.lt_trichotomy K Q with h | h | h
  · have : K * n + n ≤ n * Q := by rw [← Nat.succ_mul, Nat.mul_comm n]; exact Nat.mul_le_mul_right n h
    by_cases hr : R = 0
    · have := s1 hr; omega
    · have := s2 hr; omega
  · subst h
    rw [Nat.mul_comm n K]
    generalize K * n = P at *
    by_cases hr : R = 0
    · have := s1 hr; omega
    · have := s2 hr; omega
  · have : n * Q + n ≤ K * n := by rw [Nat.mul_comm n Q, ← Nat.succ_mul]; exact Nat.mul_le_mul_right n h
    by_cases hr : R = 0
    · have := s1 hr; omega
    · have := s2 hr; omega
/-- a midpoint that is great has no digits below -/
theorem mid_step (r g : Nat) (h : 9007199254740992 * 2 ^ g ≤ iv r + iv (r + 1)) : ∃ K, iv r + iv (r + 1) = K * 2 ^ g := by
  obtain ⟨e, k, rfl, hk, hh⟩ := iv_split r
  rw [iv_at e k (by omega) hh, Nat.add_assoc, iv_at e (k + 1) (by omega) (by omega), ← Nat.add_mul] at h ⊢
  have hge : g ≤ e := by
    by_cases q : g ≤ e
    · exact q
    · exfalso
      have h1 : 2 ^ (e + 1) ≤ 2 ^ g := Nat.pow_le_pow_right (by decide) (by omega)
      rw [Nat.pow_succ] at h1
      have h2 : (k + (k + 1)) * 2 ^ e < 18014398509481984 * 2 ^ e := Nat.mul_lt_mul_of_pos_right (by omega) (Nat.two_pow_pos e)
      omega
  refine ⟨(k + (k + 1)) * 2 ^ (e - g), ?_⟩
  rw [Nat.mul_assoc, ← Nat.pow_add, show e - g + g = e by omega]
theorem lt_pow {a b : Nat} (c : Nat) : a * 2 ^ c < b * 2 ^ c ↔ a < b := ⟨fun h => Nat.lt_of_mul_lt_mul_right h, fun h => Nat.mul_lt_mul_of_pos_right h (Nat.two_pow_pos c)⟩
theorem eq_pow {a b : Nat} (c : Nat) : a * 2 ^ c = b * 2 ^ c ↔ a = b := ⟨fun h => Nat.eq_of_mul_eq_mul_right (Nat.two_pow_pos c) h, fun h => by rw [h]⟩
/-- the quotient with its sticky digit stands to each midpoint as the true one does -/
theorem sticky (r G n : Nat) (hn : 0 < n) (hQ : 9007199254740992 ≤ G / n) (o : Int) :
    Above r ((2 * (G / n) + (G % n != 0).toNat) * 2 ^ (o - 1).toNat) (2 ^ (1 - o).toNat) ↔ Above r (G * 2 ^ o.toNat) (n * 2 ^ (-o).toNat) := by
  unfold Above
  have hms := mid_step r
  generalize iv r + iv (r + 1) = S at *
  by_cases h : o ≤ -1
  · obtain ⟨b, hb⟩ : ∃ b : Nat, (-o).toNat = b + 1 := ⟨(-o).toNat - 1, by omega⟩
    rw [hb, show (o - 1).toNat = 0 by omega, show (1 - o).toNat = b + 2 by omega, show o.toNat = 0 by omega, Nat.pow_zero, Nat.mul_one, Nat.mul_one]
    obtain ⟨c1, c2⟩ := core_div (S * 2 ^ b) G n hn
    generalize 2 * (G / n) + (G % n != 0).toNat = X at *
    have e1 : S * 2 ^ (b + 2) = 4 * (S * 2 ^ b) := by rw [Nat.pow_add, show (2 : Nat) ^ 2 = 4 from rfl, ← Nat.mul_assoc, Nat.mul_comm]
    have e2 : S * (n * 2 ^ (b + 1)) = 2 * (S * 2 ^ b * n) := by rw [Nat.pow_succ]; simp only [Nat.mul_comm, Nat.mul_left_comm, Nat.mul_assoc]
    rw [e1, e2]
    generalize S * 2 ^ b = K at *
    generalize K * n = P at *
    constructor
    · rintro (q | ⟨q, ho⟩)
      · exact .inl (by have := c1.2 (by omega); omega)
      · exact .inr ⟨by have := c2.2 (by omega); omega, ho⟩
    · rintro (q | ⟨q, ho⟩)
      · exact .inl (by have := c1.1 (by omega); omega)
      · exact .inr ⟨by have := c2.1 (by omega); omega, ho⟩
  · obtain ⟨w, hw⟩ : ∃ w : Nat, o = (w : Int) := ⟨o.toNat, by omega⟩
    subst hw
    rw [show ((w : Int)).toNat = w by omega, show (-(w : Int)).toNat = 0 by omega, Nat.pow_zero, Nat.mul_one]
    have hq0 : G / n * n ≤ G := Nat.div_mul_le_self G n
    obtain ⟨X, hX⟩ : ∃ X, 2 * (G / n) + (G % n != 0).toNat = X := ⟨_, rfl⟩
    have hXQ : 2 * (G / n) ≤ X := by omega
    -- both sides of the sticky one, without the two cases of its place
    have left : ∀ (R : Nat → Nat → Prop), (R = (· < ·) ∨ R = (· = ·)) → (R (S * 2 ^ (1 - (w : Int)).toNat) (2 * (X * 2 ^ ((w : Int) - 1).toNat)) ↔ R S (X * 2 ^ w)) := fun R hR => by
      cases w with
      | zero =>
        rw [show (1 - ((0 : Nat) : Int)).toNat = 1 from rfl, show (((0 : Nat) : Int) - 1).toNat = 0 from rfl, Nat.pow_zero, Nat.mul_one, Nat.pow_one]
        rcases hR with rfl | rfl <;> (constructor <;> intro h <;> (simp only at h ⊢; omega))
      | succ v =>
        rw [show (1 - ((v + 1 : Nat) : Int)).toNat = 0 by omega, show (((v + 1 : Nat) : Int) - 1).toNat = v by omega, Nat.pow_zero, Nat.mul_one, Nat.pow_succ]
        have : 2 * (X * 2 ^ v) = X * (2 ^ v * 2) := by rw [Nat.mul_comm 2, Nat.mul_assoc]
        rw [this]
    rw [hX, left (· < ·) (.inl rfl), left (· = ·) (.inr rfl)]
    have e2 : 2 * (G * 2 ^ w) = G * 2 ^ (w + 1) := by rw [Nat.pow_succ, Nat.mul_comm 2, Nat.mul_assoc]
    rw [e2]
    by_cases hS : 9007199254740992 * 2 ^ (w + 1) ≤ S
    · obtain ⟨K, hK⟩ := hms (w + 1) hS
      obtain ⟨c1, c2⟩ := core_div K G n hn
      rw [hX] at c1 c2
      have f1 : K * 2 ^ (w + 1) * n = K * n * 2 ^ (w + 1) := Nat.mul_right_comm ..
      have f2 : K * 2 ^ (w + 1) = 2 * K * 2 ^ w := by rw [Nat.pow_succ, Nat.mul_comm (2 ^ w), ← Nat.mul_assoc, Nat.mul_comm K 2]
      rw [hK, f1, f2, lt_pow, eq_pow, lt_pow, eq_pow, c1, c2]
    · have t1 : S < X * 2 ^ w := by
        have h1 : 18014398509481984 * 2 ^ w ≤ X * 2 ^ w := Nat.mul_le_mul_right _ (by omega)
        rw [Nat.pow_succ] at hS
        omega
      have t2 : S * n < G * 2 ^ (w + 1) := by
        have h1 : S * n < 9007199254740992 * 2 ^ (w + 1) * n := Nat.mul_lt_mul_of_pos_right (by omega) hn
        have h2 : 9007199254740992 * 2 ^ (w + 1) * n ≤ G / n * 2 ^ (w + 1) * n := Nat.mul_le_mul_right n (Nat.mul_le_mul_right _ hQ)
        have h3 : G / n * 2 ^ (w + 1) * n ≤ G * 2 ^ (w + 1) := by rw [Nat.mul_right_comm]; exact Nat.mul_le_mul_right _ hq0
        omega
      exact ⟨fun _ => .inl t2, fun _ => .inl t1⟩
theorem div_fin {x y : Nat} (hx : x < 9218868437227405312) (hy : y < 9218868437227405312) (y0 : 0 < y) : ∃ z, double.div x y = some z ∧ IsR z (iv x * UT) (iv y) := by
  obtain ⟨m, i, e1, v1⟩ := read_fin x hx
  obtain ⟨n, j, e2, v2⟩ := read_fin y hy
  have hy0 : 0 < iv y := Nat.lt_of_le_of_lt (Nat.zero_le _) (iv_lt y0)
  have hn : 0 < n := by
    by_cases q : n = 0
    · subst q; rw [Nat.zero_mul] at v2; omega
    · omega
  unfold Format.div
  rw [e1, e2]
  unfold Datum.quotient
  dsimp only
  rw [if_neg (by omega)]
  refine ⟨_, rfl, ?_⟩
  obtain ⟨k, hk⟩ : ∃ k, double.fractionBits + 2 + n.log2 - m.log2 = k := ⟨_, rfl⟩
  rw [hk, Nat.shiftLeft_eq]
  show IsR (double.nearest (false ^^ false) (2 * (m * 2 ^ k / n) + (m * 2 ^ k % n != 0).toNat) (-1074 + (i : Int) - (-1074 + (j : Int)) - k - 1)) _ _
  rw [Bool.xor_false]
  have near := near_is (2 * (m * 2 ^ k / n) + (m * 2 ^ k % n != 0).toNat) (-1074 + (i : Int) - (-1074 + (j : Int)) - k - 1)
  refine ⟨near.1, fun r hr => ?_⟩
  rw [near.2 r hr]
  obtain ⟨o, ho⟩ : ∃ o : Int, o = (i : Int) - j - k + 1074 := ⟨_, rfl⟩
  rw [show (-1074 + (i : Int) - (-1074 + (j : Int)) - k - 1 + 1074).toNat = (o - 1).toNat by omega, show (-1074 - (-1074 + (i : Int) - (-1074 + (j : Int)) - k - 1)).toNat = (1 - o).toNat by omega]
  by_cases hm : m = 0
  · subst hm
    rw [Nat.zero_mul] at v1
    have := iv_step r
    rw [← v1, Nat.zero_mul, Nat.zero_mul, Nat.zero_div, Nat.zero_mod]
    simp only [bne_self_eq_false, Bool.toNat_false, Nat.mul_zero, Nat.add_zero, Nat.zero_mul]
    unfold Above
    have p1 : 0 < (iv r + iv (r + 1)) * 2 ^ (1 - o).toNat := Nat.mul_pos (by omega) (Nat.two_pow_pos _)
    have p2 : 0 < (iv r + iv (r + 1)) * iv y := Nat.mul_pos (by omega) hy0
    omega
  · have hQ : 9007199254740992 ≤ m * 2 ^ k / n := by
      rw [Nat.le_div_iff_mul_le hn]
      have h1 : 2 ^ m.log2 * 2 ^ k ≤ m * 2 ^ k := Nat.mul_le_mul_right _ (Nat.log2_self_le hm)
      rw [← Nat.pow_add] at h1
      have h2 : n < 2 ^ (n.log2 + 1) := Nat.lt_log2_self
      have h3 : 2 ^ (53 + (n.log2 + 1)) ≤ 2 ^ (m.log2 + k) := Nat.pow_le_pow_right (by decide) (by rw [d_frac] at hk; omega)
      rw [Nat.pow_add 2 53] at h3
      have h4 : 9007199254740992 * n ≤ 9007199254740992 * 2 ^ (n.log2 + 1) := Nat.mul_le_mul_left _ (by omega)
      exact Nat.le_trans h4 (Nat.le_trans h3 h1)
    rw [sticky r _ n hn hQ o]
    have h1 := Nat.mul_pos hn (Nat.two_pow_pos (-o).toNat)
    have key : m * 2 ^ k * 2 ^ o.toNat * iv y = iv x * UT * (n * 2 ^ (-o).toNat) := by
      rw [← v1, ← v2]
      unfold UT
      have hU := UK_is
      have hexp : k + o.toNat + j = i + UK + (-o).toNat := by omega
      have l1 : m * 2 ^ k * 2 ^ o.toNat * (n * 2 ^ j) = m * n * 2 ^ (k + o.toNat + j) := by rw [Nat.pow_add, Nat.pow_add]; simp only [Nat.mul_comm, Nat.mul_left_comm, Nat.mul_assoc]
      have l2 : m * 2 ^ i * 2 ^ UK * (n * 2 ^ (-o).toNat) = m * n * 2 ^ (i + UK + (-o).toNat) := by rw [Nat.pow_add, Nat.pow_add]; simp only [Nat.mul_comm, Nat.mul_left_comm, Nat.mul_assoc]
      rw [l1, l2, hexp]
    exact ⟨Above.mono h1 hy0 (Nat.le_of_eq key), Above.mono hy0 h1 (Nat.le_of_eq key.symm)⟩
end Go.Proofs.Ytgnkcmmpbohafaa
