/- Some texts, in one. -/
import Derived.Test.YtgnkcmmpbohafaaDoe01
/- Doubles: a quotient is rounded once. -/
namespace Go.Proofs.Ytgnkcmmpbohafaa
open Ieee
set_option linter.unusedVariables false
set_option linter.unusedSimpArgs false

/-- whether anything is left over tells on which side of a whole number a fraction lies -/
theorem core_div (K G n : Nat) (hn : 0 < n) : (K * n < G ↔ 2 * K < 2 * (G / n) + (G % n != 0).toNat) ∧ (K * n = G ↔ 2 * K = 2 * (G / n) + (G % n != 0).toNat) := by
  have e := Nat.div_add_mod G n; have l := Nat.mod_lt G hn
  generalize hQ : G / n = Q at *
  generalize hR : G % n = R at *
  have s1 : R = 0 → (R != 0).toNat = 0 := fun h => by subst h; rfl
  have s2 : R ≠ 0 → (R != 0).toNat = 1 := fun h => by
    have : (R != 0) = true := by simpa using h
    rw [this]; rfl
  subst e
  rcases Nat.lt_trichotomy K Q with h | h | h
  · have : K * n + n ≤ n * Q := by rw [← Nat.succ_mul, Nat.mul_comm n]; exact Nat.mul_le_mul_right n h
    by_cases hr : R = 0
    · have := s1 hr; omega
    · have := s2 hr; omega
  · subst h
    rw [Nat.mul_comm n K]
    generalize K * n = P at *
    by_cases hr : R = 0
    · have := s1 hr; omega
    · have := s2 hr; omega
  · have : n * Q + n ≤ K * n := by rw [Nat.mul_comm n Q, ← Nat.succ_mul]; exact Nat.mul_le_mul_right n h
    by_cases hr : R = 0
    · have := s1 hr; omega
    · have := s2 hr; omega
/-- a midpoint that is great has no digits below -/
theorem mid_step (r g : Nat) (h : 9007199254740992 * 2 ^ g ≤ iv r + iv (r + 1)) : ∃ K, iv r + iv (r + 1) = K * 2 ^ g := by
  obtain ⟨e, k, rfl, hk, hh⟩ := iv_split r; rw [iv_at e k (by omega) hh, Nat.add_assoc, iv_at e (k + 1) (by omega) (by omega), ← Nat.add_mul] at h ⊢
  have hge : g ≤ e := by
    by_cases q : g ≤ e
    · exact q
    · exfalso
      have h1 : 2 ^ (e + 1) ≤ 2 ^ g := Nat.pow_le_pow_right (by decide) (by omega)
      rw [Nat.pow_succ] at h1
      have h2 : (k + (k + 1)) * 2 ^ e < 18014398509481984 * 2 ^ e := Nat.mul_lt_mul_of_pos_right (by omega) (Nat.two_pow_pos e)
      omega
  refine ⟨(k + (k + 1)) * 2 ^ (e - g), ?_⟩; rw [Nat.mul_assoc, ← Nat.pow_add, show e - g + g = e by omega]
theorem lt_pow {a b : Nat} (c : Nat) : a * 2 ^ c < b * 2 ^ c ↔ a < b := ⟨fun h => Nat.lt_of_mul_lt_mul_right h, fun h => Nat.mul_lt_mul_of_pos_right h (Nat.two_pow_pos c)⟩
theorem eq_pow {a b : Nat} (c : Nat) : a * 2 ^ c = b * 2 ^ c ↔ a = b := ⟨fun h => Nat.eq_of_mul_eq_mul_right (Nat.two_pow_pos c) h, fun h => by rw [h]⟩
/-- the quotient with its sticky digit stands to each midpoint as the true one does -/
theorem sticky (r G n : Nat) (hn : 0 < n) (hQ : 9007199254740992 ≤ G / n) (o : Int) :
    Above r ((2 * (G / n) + (G % n != 0).toNat) * 2 ^ (o - 1).toNat) (2 ^ (1 - o).toNat) ↔ Above r (G * 2 ^ o.toNat) (n * 2 ^ (-o).toNat) := by
  unfold Above
  have hms := mid_step r
  generalize iv r + iv (r + 1) = S at *
  by_cases h : o ≤ -1
  · obtain ⟨b, hb⟩ : ∃ b : Nat, (-o).toNat = b + 1 := ⟨(-o).toNat - 1, by omega⟩
    rw [hb, show (o - 1).toNat = 0 by omega, show (1 - o).toNat = b + 2 by omega, show o.toNat = 0 by omega, Nat.pow_zero, Nat.mul_one, Nat.mul_one]; obtain ⟨c1, c2⟩ := core_div (S * 2 ^ b) G n hn
    generalize 2 * (G / n) + (G % n != 0).toNat = X at *
    have e1 : S * 2 ^ (b + 2) = 4 * (S * 2 ^ b) := by rw [Nat.pow_add, show (2 : Nat) ^ 2 = 4 from rfl, ← Nat.mul_assoc, Nat.mul_comm]
    have e2 : S * (n * 2 ^ (b + 1)) = 2 * (S * 2 ^ b * n) := by rw [Nat.pow_succ]; simp only [Nat.mul_comm, Nat.mul_left_comm, Nat.mul_assoc]
    rw [e1, e2]
    generalize S * 2 ^ b = K at *
    generalize K * n = P at *
    constructor
    · rintro (q | ⟨q, ho⟩)
      · exact .inl (by have := c1.2 (by omega); omega)
      · exact .inr ⟨by have := c2.2 (by omega); omega, ho⟩
    · rintro (q | ⟨q, ho⟩)
      · exact .inl (by have := c1.1 (by omega); omega)
      · exact .inr ⟨by have := c2.1 (by omega); omega, ho⟩
  · obtain ⟨w, hw⟩ : ∃ w : Nat, o = (w : Int) := ⟨o.toNat, by omega⟩
    subst hw; rw [show ((w : Int)).toNat = w by omega, show (-(w : Int)).toNat = 0 by omega, Nat.pow_zero, Nat.mul_one]
    have hq0 : G / n * n ≤ G := Nat.div_mul_le_self G n
    obtain ⟨X, hX⟩ : ∃ X, 2 * (G / n) + (G % n != 0).toNat = X := ⟨_, rfl⟩
    have hXQ : 2 * (G / n) ≤ X := by omega
    -- both sides of the sticky one, without the two cases of its place
    have left : ∀ (R : Nat → Nat → Prop), (R = (· < ·) ∨ R = (· = ·)) → (R (S * 2 ^ (1 - (w : Int)).toNat) (2 * (X * 2 ^ ((w : Int) - 1).toNat)) ↔ R S (X * 2 ^ w)) := fun R hR => by
      cases w with
      | zero =>
        rw [show (1 - ((0 : Nat) : Int)).toNat = 1 from rfl, show (((0 : Nat) : Int) - 1).toNat = 0 from rfl, Nat.pow_zero, Nat.mul_one, Nat.pow_one]
        rcases hR with rfl | rfl <;> (constructor <;> intro h <;> (simp only at h ⊢; omega))
      | succ v =>
        rw [show (1 - ((v + 1 : Nat) : Int)).toNat = 0 by omega, show (((v + 1 : Nat) : Int) - 1).toNat = v by omega, Nat.pow_zero, Nat.mul_one, Nat.pow_succ]
        have : 2 * (X * 2 ^ v) = X * (2 ^ v * 2) := by rw [Nat.mul_comm 2, Nat.mul_assoc]
        rw [this]
    rw [hX, left (· < ·) (.inl rfl), left (· = ·) (.inr rfl)]
    have e2 : 2 * (G * 2 ^ w) = G * 2 ^ (w + 1) := by rw [Nat.pow_succ, Nat.mul_comm 2, Nat.mul_assoc]
    rw [e2]
    by_cases hS : 9007199254740992 * 2 ^ (w + 1) ≤ S
    · obtain ⟨K, hK⟩ := hms (w + 1) hS
      obtain ⟨c1, c2⟩ := core_div K G n hn; rw [hX] at c1 c2
      have f1 : K * 2 ^ (w + 1) * n = K * n * 2 ^ (w + 1) := Nat.mul_right_comm ..
      have f2 : K * 2 ^ (w + 1) = 2 * K * 2 ^ w := by rw [Nat.pow_succ, Nat.mul_comm (2 ^ w), ← Nat.mul_assoc, Nat.mul_comm K 2]
      rw [hK, f1, f2, lt_pow, eq_pow, lt_pow, eq_pow, c1, c2]
    · have t1 : S < X * 2 ^ w := by
        have h1 : 18014398509481984 * 2 ^ w ≤ X * 2 ^ w := Nat.mul_le_mul_right _ (by omega)
        rw [Nat.pow_succ] at hS
        omega
      have t2 : S * n < G * 2 ^ (w + 1) := by
        have h1 : S * n < 9007199254740992 * 2 ^ (w + 1) * n := Nat.mul_lt_mul_of_pos_right (by omega) hn
        have h2 : 9007199254740992 * 2 ^ (w + 1) * n ≤ G / n * 2 ^ (w + 1) * n := Nat.mul_le_mul_right n (Nat.mul_le_mul_right _ hQ)
        have h3 : G / n * 2 ^ (w + 1) * n ≤ G * 2 ^ (w + 1) := by rw [Nat.mul_right_comm]; exact Nat.mul_le_mul_right _ hq0
        omega
      exact ⟨fun _ => .inl t2, fun _ => .inl t1⟩
theorem div_fin {x y : Nat} (hx : x < 9218868437227405312) (hy : y < 9218868437227405312) (y0 : 0 < y) : ∃ z, double.div x y = some z ∧ IsR z (iv x * UT) (iv y) := by
  obtain ⟨m, i, e1, v1⟩ := read_fin x hx; obtain ⟨n, j, e2, v2⟩ := read_fin y hy
  have hy0 : 0 < iv y := Nat.lt_of_le_of_lt (Nat.zero_le _) (iv_lt y0)
  have hn : 0 < n := by
    by_cases q : n = 0
    · subst q; rw [Nat.zero_mul] at v2; omega
    · omega
  unfold Format.div
  rw [e1, e2]
  unfold Datum.quotient
  dsimp only
  rw [if_neg (by omega)]; refine ⟨_, rfl, ?_⟩; obtain ⟨k, hk⟩ : ∃ k, double.fractionBits + 2 + n.log2 - m.log2 = k := ⟨_, rfl⟩; rw [hk, Nat.shiftLeft_eq]
  show IsR (double.nearest (false ^^ false) (2 * (m * 2 ^ k / n) + (m * 2 ^ k % n != 0).toNat) (-1074 + (i : Int) - (-1074 + (j : Int)) - k - 1)) _ _
  rw [Bool.xor_false]; have near := near_is (2 * (m * 2 ^ k / n) + (m * 2 ^ k % n != 0).toNat) (-1074 + (i : Int) - (-1074 + (j : Int)) - k - 1); refine ⟨near.1, fun r hr => ?_⟩; rw [near.2 r hr]; obtain ⟨o, ho⟩ : ∃ o : Int, o = (i : Int) - j - k + 1074 := ⟨_, rfl⟩; rw [show (-1074 + (i : Int) - (-1074 + (j : Int)) - k - 1 + 1074).toNat = (o - 1).toNat by omega, show (-1074 - (-1074 + (i : Int) - (-1074 + (j : Int)) - k - 1)).toNat = (1 - o).toNat by omega]
  by_cases hm : m = 0
  · subst hm
    rw [Nat.zero_mul] at v1
    have := iv_step r
    rw [← v1, Nat.zero_mul, Nat.zero_mul, Nat.zero_div, Nat.zero_mod]; simp only [bne_self_eq_false, Bool.toNat_false, Nat.mul_zero, Nat.add_zero, Nat.zero_mul]
    unfold Above
    have p1 : 0 < (iv r + iv (r + 1)) * 2 ^ (1 - o).toNat := Nat.mul_pos (by omega) (Nat.two_pow_pos _)
    have p2 : 0 < (iv r + iv (r + 1)) * iv y := Nat.mul_pos (by omega) hy0
    omega
  · have hQ : 9007199254740992 ≤ m * 2 ^ k / n := by
      rw [Nat.le_div_iff_mul_le hn]
      have h1 : 2 ^ m.log2 * 2 ^ k ≤ m * 2 ^ k := Nat.mul_le_mul_right _ (Nat.log2_self_le hm)
      rw [← Nat.pow_add] at h1
      have h2 : n < 2 ^ (n.log2 + 1) := Nat.lt_log2_self
      have h3 : 2 ^ (53 + (n.log2 + 1)) ≤ 2 ^ (m.log2 + k) := Nat.pow_le_pow_right (by decide) (by rw [d_frac] at hk; omega)
      rw [Nat.pow_add 2 53] at h3
      have h4 : 9007199254740992 * n ≤ 9007199254740992 * 2 ^ (n.log2 + 1) := Nat.mul_le_mul_left _ (by omega)
      exact Nat.le_trans h4 (Nat.le_trans h3 h1)
    rw [sticky r _ n hn hQ o]; have h1 := Nat.mul_pos hn (Nat.two_pow_pos (-o).toNat)
    have key : m * 2 ^ k * 2 ^ o.toNat * iv y = iv x * UT * (n * 2 ^ (-o).toNat) := by
      rw [← v1, ← v2]
      unfold UT
      have hU := UK_is
      have hexp : k + o.toNat + j = i + UK + (-o).toNat := by omega
      have l1 : m * 2 ^ k * 2 ^ o.toNat * (n * 2 ^ j) = m * n * 2 ^ (k + o.toNat + j) := by rw [Nat.pow_add, Nat.pow_add]; simp only [Nat.mul_comm, Nat.mul_left_comm, Nat.mul_assoc]
      have l2 : m * 2 ^ i * 2 ^ UK * (n * 2 ^ (-o).toNat) = m * n * 2 ^ (i + UK + (-o).toNat) := by rw [Nat.pow_add, Nat.pow_add]; simp only [Nat.mul_comm, Nat.mul_left_comm, Nat.mul_assoc]
      rw [l1, l2, hexp]
    exact ⟨Above.mono h1 hy0 (Nat.le_of_eq key), Above.mono hy0 h1 (Nat.le_of_eq key.symm)⟩
end Go.Proofs.Ytgnkcmmpbohafaa

/- Doubles of both signs: how they are ordered; sums with noughts and with what has no end. -/
namespace Go.Proofs.Ytgnkcmmpbohafaa
open Ieee
set_option linter.unusedVariables false
set_option linter.unusedSimpArgs false

/-- a word's rung, its sign, whether it is no number; where it stands among all -/
def rg (x : Nat) : Nat := x % 9223372036854775808
def ng (x : Nat) : Bool := x / 9223372036854775808 % 2 == 1
def isN (x : Nat) : Bool := decide (9218868437227405312 < rg x)
def key (x : Nat) : Int := if ng x then -(iv (rg x) : Int) else (iv (rg x) : Int)
theorem read_num (x : Nat) (hx : rg x < 9218868437227405312) : ∃ m k : Nat, double.read x = .number (ng x) m (-1074 + (k : Int)) ∧ m * 2 ^ k = iv (rg x) := by
  unfold Format.read ng
  rw [d_sign, d_binade, d_inf, d_least]
  dsimp only
  show ∃ m k : Nat, (if rg x < 4503599627370496 then _ else if rg x < 9218868437227405312 then _ else _) = _ ∧ _
  change ∃ m k : Nat, (if rg x < 4503599627370496 then Datum.number _ (rg x) (-1074) else if rg x < 9218868437227405312 then Datum.number _ (4503599627370496 + rg x % 4503599627370496) (-1074 + ((rg x / 4503599627370496 - 1 : Nat) : Int)) else _) = _ ∧ _
  by_cases h : rg x < 4503599627370496
  · rw [if_pos h]
    exact ⟨rg x, 0, rfl, by unfold iv; rw [if_pos h]; simp⟩
  · rw [if_neg h, if_pos hx]
    exact ⟨4503599627370496 + rg x % 4503599627370496, rg x / 4503599627370496 - 1, rfl, by unfold iv; rw [if_neg h]⟩
theorem read_end (x : Nat) (hx : rg x = 9218868437227405312) : double.read x = .infinity (ng x) := by
  unfold Format.read ng
  rw [d_sign, d_binade, d_inf, d_least]
  dsimp only
  have h : x % 9223372036854775808 = 9218868437227405312 := hx
  rw [h]
  rfl
theorem read_nan (x : Nat) (hx : isN x = true) : ∃ s f, double.read x = .nan s f := by
  have h := of_decide_eq_true hx
  unfold rg at h
  unfold Format.read
  rw [d_sign, d_binade, d_inf, d_least]
  dsimp only
  rw [if_neg (by omega), if_neg (by omega), if_neg (by omega)]; exact ⟨_, _, rfl⟩
theorem signed_key (s : Bool) (m up : Nat) : signed s m up = if s then -((m * 2 ^ up : Nat) : Int) else ((m * 2 ^ up : Nat) : Int) := by
  cases s
  · rw [sgp]; rfl
  · rw [sgm]; rfl
theorem order_nan {x y : Nat} (h : isN x = true ∨ isN y = true) : double.order x y = none := by
  unfold Format.order
  rcases h with h | h
  · obtain ⟨s, f, e⟩ := read_nan x h
    rw [e]
    rfl
  · obtain ⟨s, f, e⟩ := read_nan y h
    rw [e]
    cases double.read x <;> rfl
theorem iv_end {x : Nat} (h : x < 9218868437227405312) : iv x < iv 9218868437227405312 := iv_lt h
theorem iv_big : 0 < iv 9218868437227405312 := Nat.lt_of_le_of_lt (Nat.zero_le _) (iv_end (x := 0) (by decide))
theorem order_key {x y : Nat} (hx : isN x = false) (hy : isN y = false) : double.order x y = some (compare (key x) (key y)) := by
  have hx' := of_decide_eq_false hx
  have hy' := of_decide_eq_false hy
  have cmp : ∀ {a b : Int}, (a < b → compare a b = .lt) ∧ (a = b → compare a b = .eq) ∧ (b < a → compare a b = .gt) := fun {a b} => ⟨Int.compare_eq_lt.2, Int.compare_eq_eq.2, Int.compare_eq_gt.2⟩
  have big := iv_big
  unfold Format.order key
  by_cases h1 : rg x = 9218868437227405312
  · rw [read_end x h1, h1]
    by_cases h2 : rg y = 9218868437227405312
    · rw [read_end y h2, h2]
      generalize iv 9218868437227405312 = I at *
      cases ng x <;> cases ng y <;> simp only [Datum.order, Bool.toNat_true, Bool.toNat_false, if_true, if_false, Bool.false_eq_true]
      · rw [cmp.2.1 rfl]; rfl
      · rw [cmp.2.2 (by omega)]; rfl
      · rw [cmp.1 (by omega)]; rfl
      · rw [cmp.2.1 rfl]; rfl
    · obtain ⟨n, j, e2, v2⟩ := read_num y (by omega)
      have hl := iv_end (show rg y < 9218868437227405312 by omega); rw [e2]
      generalize iv 9218868437227405312 = I at *
      cases ng x <;> cases ng y <;> simp only [Datum.order, if_true, if_false, Bool.false_eq_true]
      · rw [cmp.2.2 (by omega)]
      · rw [cmp.2.2 (by omega)]
      · rw [cmp.1 (by omega)]
      · rw [cmp.1 (by omega)]
  · obtain ⟨m, i, e1, v1⟩ := read_num x (by omega)
    rw [e1]
    by_cases h2 : rg y = 9218868437227405312
    · rw [read_end y h2, h2]
      have hl := iv_end (show rg x < 9218868437227405312 by omega)
      generalize iv 9218868437227405312 = I at *
      cases ng x <;> cases ng y <;> simp only [Datum.order, if_true, if_false, Bool.false_eq_true]
      · rw [cmp.1 (by omega)]
      · rw [cmp.2.2 (by omega)]
      · rw [cmp.1 (by omega)]
      · rw [cmp.2.2 (by omega)]
    · obtain ⟨n, j, e2, v2⟩ := read_num y (by omega)
      rw [e2]
      unfold Datum.order
      dsimp only
      rw [min_at, signed_key, signed_key]
      generalize hb : min i j = b
      have hi := base_at m i b (by omega); have hj := base_at n j b (by omega)
      generalize m * 2 ^ (-1074 + (i : Int) - (-1074 + (b : Int))).toNat = M at *
      generalize n * 2 ^ (-1074 + (j : Int) - (-1074 + (b : Int))).toNat = N at *
      rw [v1] at hi; rw [v2] at hj; have hB := Nat.two_pow_pos b
      have t1 : ∀ {a c : Nat}, a < c → a * 2 ^ b < c * 2 ^ b := fun h => Nat.mul_lt_mul_of_pos_right h hB
      have z : ∀ {a : Nat}, 0 < a → 0 < a * 2 ^ b := fun h => Nat.mul_pos h hB
      have zz : ∀ {a : Nat}, a = 0 → a * 2 ^ b = 0 := fun h => by rw [h, Nat.zero_mul]
      rw [← hi, ← hj]
      congr 1
      have tri := Nat.lt_trichotomy M N; have pM := Nat.eq_zero_or_pos M; have pN := Nat.eq_zero_or_pos N
      cases ng x <;> cases ng y <;> simp only [if_true, if_false, Bool.false_eq_true]
      · rcases tri with h | h | h
        · have := t1 h
          rw [cmp.1 (by omega), cmp.1 (by omega)]
        · rw [h, cmp.2.1 rfl, cmp.2.1 rfl]
        · have := t1 h
          rw [cmp.2.2 (by omega), cmp.2.2 (by omega)]
      · rcases pM with h | h
        · rcases pN with h' | h'
          · have := zz h; have := zz h'
            rw [cmp.2.1 (by omega), cmp.2.1 (by omega)]
          · have := zz h; have := z h'
            rw [cmp.2.2 (by omega), cmp.2.2 (by omega)]
        · have := z h
          rw [cmp.2.2 (by omega), cmp.2.2 (by omega)]
      · rcases pM with h | h
        · rcases pN with h' | h'
          · have := zz h; have := zz h'
            rw [cmp.2.1 (by omega), cmp.2.1 (by omega)]
          · have := zz h; have := z h'
            rw [cmp.1 (by omega), cmp.1 (by omega)]
        · have := z h
          rw [cmp.1 (by omega), cmp.1 (by omega)]
      · rcases tri with h | h | h
        · have := t1 h
          rw [cmp.2.2 (by omega), cmp.2.2 (by omega)]
        · rw [h, cmp.2.1 rfl, cmp.2.1 rfl]
        · have := t1 h
          rw [cmp.1 (by omega), cmp.1 (by omega)]
/-! comparisons, as the operations ask them -/
theorem cmp_lt {x y : Nat} (hx : isN x = false) (hy : isN y = false) : (double.order x y == some .lt) = decide (key x < key y) := by
  rw [order_key hx hy]
  rcases Int.lt_trichotomy (key x) (key y) with h | h | h
  · rw [Int.compare_eq_lt.2 h, decide_eq_true h]; rfl
  · rw [Int.compare_eq_eq.2 h, decide_eq_false (by omega)]; rfl
  · rw [Int.compare_eq_gt.2 h, decide_eq_false (by omega)]; rfl
theorem cmp_gt {x y : Nat} (hx : isN x = false) (hy : isN y = false) : (double.order x y == some .gt) = decide (key y < key x) := by
  rw [order_key hx hy]
  rcases Int.lt_trichotomy (key x) (key y) with h | h | h
  · rw [Int.compare_eq_lt.2 h, decide_eq_false (by omega)]; rfl
  · rw [Int.compare_eq_eq.2 h, decide_eq_false (by omega)]; rfl
  · rw [Int.compare_eq_gt.2 h, decide_eq_true h]; rfl
theorem cmp_eq {x y : Nat} (hx : isN x = false) (hy : isN y = false) : (double.order x y == some .eq) = decide (key x = key y) := by
  rw [order_key hx hy]
  rcases Int.lt_trichotomy (key x) (key y) with h | h | h
  · rw [Int.compare_eq_lt.2 h, decide_eq_false (by omega)]; rfl
  · rw [Int.compare_eq_eq.2 h, decide_eq_true h]; rfl
  · rw [Int.compare_eq_gt.2 h, decide_eq_false (by omega)]; rfl
/-! words that are not below nought -/
theorem rg_pos {x : Nat} (h : x ≤ 9218868437227405312) : rg x = x := Nat.mod_eq_of_lt (by omega)
theorem ng_pos {x : Nat} (h : x ≤ 9218868437227405312) : ng x = false := by
  unfold ng
  rw [show x / 9223372036854775808 = 0 from Nat.div_eq_of_lt (by omega)]
  rfl
theorem isN_pos {x : Nat} (h : x ≤ 9218868437227405312) : isN x = false := decide_eq_false (by rw [rg_pos h]; omega)
theorem key_pos {x : Nat} (h : x ≤ 9218868437227405312) : key x = (iv x : Int) := by
  unfold key
  rw [ng_pos h, rg_pos h]
  rfl
theorem iv_zero : iv 0 = 0 := by unfold iv; rfl
theorem key_zero : key 0 = 0 := by rw [key_pos (by decide), iv_zero]; rfl
/-- above nought: a plain rung -/
theorem above_zero {x : Nat} (hx : x < 18446744073709551616) (hn : isN x = false) (h : 0 < key x) : 0 < x ∧ x ≤ 9218868437227405312 := by
  have hn := of_decide_eq_false hn
  unfold key at h
  cases hs : ng x with
  | true => rw [hs] at h; simp only [if_true] at h; omega
  | false =>
    rw [hs] at h; simp only [Bool.false_eq_true, if_false] at h
    unfold ng at hs
    unfold rg at hn h
    have h2 : x / 9223372036854775808 % 2 = 0 := by
      have : ¬ x / 9223372036854775808 % 2 = 1 := by simpa using hs
      omega
    have h3 : x < 9223372036854775808 := by omega
    rw [Nat.mod_eq_of_lt h3] at h hn; refine ⟨?_, by omega⟩
    by_cases q : x = 0
    · subst q; rw [iv_zero] at h; omega
    · omega
/-- a nought of either sign, or above -/
theorem not_below {x : Nat} (hx : x < 18446744073709551616) (hn : isN x = false) (h : 0 ≤ key x) : x = 9223372036854775808 ∨ x ≤ 9218868437227405312 := by
  have hn := of_decide_eq_false hn
  by_cases h0 : x < 9223372036854775808
  · right
    unfold rg at hn
    rw [Nat.mod_eq_of_lt h0] at hn
    omega
  · left
    have hs : ng x = true := by
      unfold ng
      rw [show x / 9223372036854775808 = 1 by omega]
      rfl
    unfold key at h
    rw [hs] at h; simp only [if_true] at h
    have h2 : iv (rg x) = 0 := by omega
    have h3 : rg x = 0 := iv_inj (h2.trans iv_zero.symm)
    unfold rg at h3
    omega
/-! sums with a nought below, and with what has no end -/
theorem add_end {x y : Nat} (hx : x ≤ 9218868437227405312) (hy : y ≤ 9218868437227405312) (h : x = 9218868437227405312 ∨ y = 9218868437227405312) : double.add x y = some 9218868437227405312 := by
  unfold Format.add
  have hw : double.write (.infinity false) = 9218868437227405312 := by decide +kernel
  by_cases h1 : x = 9218868437227405312
  · subst h1
    rw [read_inf]
    by_cases h2 : y = 9218868437227405312
    · subst h2
      rw [read_inf]
      show some (double.write (.infinity false)) = _
      rw [hw]
    · obtain ⟨n, j, e2, v2⟩ := read_fin y (by omega)
      rw [e2]
      show some (double.write (.infinity false)) = _
      rw [hw]
  · have h2 : y = 9218868437227405312 := by omega
    subst h2; obtain ⟨m, i, e1, v1⟩ := read_fin x (by omega); rw [e1, read_inf]
    show some (double.write (.infinity false)) = _
    rw [hw]
/-- adding a nought below changes nothing -/
theorem add_nought {x : Nat} (hx : x ≤ 9218868437227405312) : double.add x 9223372036854775808 = some x := by
  have hr : double.read 9223372036854775808 = .number true 0 (-1074) := by decide +kernel
  unfold Format.add
  by_cases h1 : x = 9218868437227405312
  · subst h1
    rw [read_inf, hr]
    decide +kernel
  · obtain ⟨m, i, e1, v1⟩ := read_fin x (by omega)
    rw [e1, hr]
    unfold Datum.sum
    dsimp only
    rw [show min (-1074 + (i : Int)) (-1074) = -1074 by omega, sgp, sgm]
    have hs : (if ((m * 2 ^ (-1074 + (i : Int) - -1074).toNat : Nat) : Int) + -((0 * 2 ^ ((-1074 : Int) - -1074).toNat : Nat) : Int) = 0 then false && true else decide (((m * 2 ^ (-1074 + (i : Int) - -1074).toNat : Nat) : Int) + -((0 * 2 ^ ((-1074 : Int) - -1074).toNat : Nat) : Int) < 0)) = false := by
      split
      · rfl
      · rw [Nat.zero_mul]
        exact decide_eq_false (by omega)
    rw [hs, Nat.zero_mul, show (-1074 + (i : Int) - -1074).toNat = i by omega, v1, show ((iv x : Int) + -((0 : Nat) : Int)).natAbs = iv x by omega]; have h2 := near_up (iv x) 0; rw [Nat.pow_zero, Nat.mul_one] at h2
    have := h2.eq (IsR.exact hx) (by decide) (by decide) rfl
    exact congrArg some this
end Go.Proofs.Ytgnkcmmpbohafaa

/- Doubles: halves, and the weights of ages. -/
namespace Go.Proofs.Ytgnkcmmpbohafaa
open Ieee
set_option linter.unusedVariables false

/-- words of 1, 2, 128 -/
def F1 : Nat := 4607182418800017408
def F2 : Nat := 4611686018427387904
def F128 : Nat := 4638707616191610880
/-- one, halved q times -/
def hf (q : Nat) : Nat := (1023 - q) * 4503599627370496
theorem half_all : (List.range 1022).all (fun q => double.div (hf q) F2 == some (hf (q + 1))) = true := by decide +kernel
theorem half_step (q : Nat) (h : q < 1022) : double.div (hf q) F2 = some (hf (q + 1)) := by
  have := List.all_eq_true.1 half_all q (List.mem_range.2 h)
  simpa using this
/-- the weight of an age with quotient q and rest r -/
def wtO (q r : Nat) : Option Nat := (double.div (FloatKind.f64.nearest (r : Int)) F128).bind fun a => (double.sub F1 a).bind fun b => double.mul (hf q) b
def wtW (q r : Nat) : Nat := (wtO q r).getD 0
theorem wt_all : (List.range 65).all (fun q => (List.range 64).all fun r => wtO q r == some (wtW q r) && decide (wtW q r ≤ F1) && decide (wtW q (r + 1) ≤ wtW q r) && decide (wtW (q + 1) 0 ≤ wtW q r)) = true := by decide +kernel
theorem wt_at (q r : Nat) (hq : q ≤ 64) (hr : r < 64) : wtO q r = some (wtW q r) ∧ wtW q r ≤ F1 ∧ wtW q (r + 1) ≤ wtW q r ∧ wtW (q + 1) 0 ≤ wtW q r := by
  have h1 := List.all_eq_true.1 wt_all q (List.mem_range.2 (by omega)); have h2 := List.all_eq_true.1 h1 r (List.mem_range.2 hr); simp only [Bool.and_eq_true, beq_iff_eq, decide_eq_true_eq] at h2; exact ⟨h2.1.1.1, h2.1.1.2, h2.1.2, h2.2⟩
/-- the weight of an age, as a word -/
def wt (a : Int) : Nat := if a < 0 then F1 else if 64 < a / 64 then 0 else wtW (a / 64).toNat (a % 64).toNat
theorem wt_le (a : Int) : wt a ≤ F1 := by
  unfold wt
  split
  · exact Nat.le_refl _
  · split
    · exact Nat.zero_le _
    · exact (wt_at _ _ (by omega) (by omega)).2.1
end Go.Proofs.Ytgnkcmmpbohafaa

/- Doubles that are not below nought, by plain functions: what comes out, its bounds, and how it rises. -/
namespace Go.Proofs.Ytgnkcmmpbohafaa
open Ieee
set_option linter.unusedVariables false
set_option linter.unusedSimpArgs false

def fadd (x y : Nat) : Nat := (double.add x y).getD 0
def fsub (x y : Nat) : Nat := (double.sub x y).getD 0
def fmul (x y : Nat) : Nat := (double.mul x y).getD 0
def fdiv (x y : Nat) : Nat := (double.div x y).getD 0
def i2f (n : Int) : Nat := FloatKind.f64.nearest n
theorem ut_of (x e : Nat) (hx : x = e * 4503599627370496 + 4503599627370496) (h : 52 + e = UK) : iv x = UT := by
  rw [hx, iv_at e 4503599627370496 (by decide) (.inr (by decide))]
  unfold UT
  rw [← h, Nat.pow_add]
theorem iv_one : iv F1 = UT := ut_of F1 1022 rfl rfl
theorem F1_lt : F1 < 9218868437227405312 := by decide
section
variable {x y x' y' : Nat}
theorem add_is (hx : x < 9218868437227405312) (hy : y < 9218868437227405312) : double.add x y = some (fadd x y) ∧ IsR (fadd x y) (iv x + iv y) 1 := by
  obtain ⟨z, h1, h2⟩ := add_fin hx hy
  have : fadd x y = z := by unfold fadd; rw [h1]; rfl
  rw [this]; exact ⟨h1, h2⟩
theorem add_some (hx : x ≤ 9218868437227405312) (hy : y ≤ 9218868437227405312) : double.add x y = some (fadd x y) ∧ fadd x y ≤ 9218868437227405312 := by
  by_cases h : x = 9218868437227405312 ∨ y = 9218868437227405312
  · have := add_end hx hy h
    have e : fadd x y = 9218868437227405312 := by unfold fadd; rw [this]; rfl
    rw [e]; exact ⟨this, Nat.le_refl _⟩
  · have := add_is (x := x) (y := y) (by omega) (by omega)
    exact ⟨this.1, this.2.1⟩
theorem add_mono (hx' : x' ≤ 9218868437227405312) (hy' : y' ≤ 9218868437227405312) (hx : x ≤ x') (hy : y ≤ y') : fadd x y ≤ fadd x' y' := by
  by_cases h : x' = 9218868437227405312 ∨ y' = 9218868437227405312
  · have e : fadd x' y' = 9218868437227405312 := by unfold fadd; rw [add_end hx' hy' h]; rfl
    rw [e]; exact (add_some (by omega) (by omega)).2
  · refine (add_is (x := x) (y := y) (by omega) (by omega)).2.le (add_is (x := x') (y := y') (by omega) (by omega)).2 (by decide) (by decide) ?_
    have := iv_le hx
    have := iv_le hy
    omega
theorem add_zero_r (hx : x ≤ 9218868437227405312) : fadd x 0 = x := by
  by_cases h : x = 9218868437227405312
  · subst h
    unfold fadd
    rw [add_end (by decide) (by decide) (.inl rfl)]
    rfl
  · have := (add_is (x := x) (y := 0) (by omega) (by decide)).2
    rw [iv_zero, Nat.add_zero] at this; exact this.eq (IsR.exact hx) (by decide) (by decide) rfl
theorem add_zero_l (hy : y ≤ 9218868437227405312) : fadd 0 y = y := by
  by_cases h : y = 9218868437227405312
  · subst h
    unfold fadd
    rw [add_end (by decide) (by decide) (.inr rfl)]
    rfl
  · have := (add_is (x := 0) (y := y) (by decide) (by omega)).2
    rw [iv_zero, Nat.zero_add] at this; exact this.eq (IsR.exact hy) (by decide) (by decide) rfl
theorem add_ge_l (hx : x ≤ 9218868437227405312) (hy : y ≤ 9218868437227405312) : x ≤ fadd x y := by
  have := add_mono hx hy (Nat.le_refl x) (Nat.zero_le y)
  rw [add_zero_r hx] at this; exact this
theorem add_ge_r (hx : x ≤ 9218868437227405312) (hy : y ≤ 9218868437227405312) : y ≤ fadd x y := by
  have := add_mono hx hy (Nat.zero_le x) (Nat.le_refl y)
  rw [add_zero_l hy] at this; exact this
theorem sub_is (hx : x < 9218868437227405312) (hxy : y ≤ x) : double.sub x y = some (fsub x y) ∧ IsR (fsub x y) (iv x - iv y) 1 := by
  obtain ⟨z, h1, h2⟩ := sub_fin hx (Nat.lt_of_le_of_lt hxy hx) hxy
  have : fsub x y = z := by unfold fsub; rw [h1]; rfl
  rw [this]; exact ⟨h1, h2⟩
theorem sub_le (hx : x < 9218868437227405312) (hxy : y ≤ x) : fsub x y ≤ x :=
  (sub_is hx hxy).2.le (IsR.exact (Nat.le_of_lt hx)) (by decide) (by decide) (by omega)
theorem mul_is (hx : x < 9218868437227405312) (hy : y < 9218868437227405312) : double.mul x y = some (fmul x y) ∧ IsR (fmul x y) (iv x * iv y) UT := by
  obtain ⟨z, h1, h2⟩ := mul_fin hx hy
  have : fmul x y = z := by unfold fmul; rw [h1]; rfl
  rw [this]; exact ⟨h1, h2⟩
theorem mul_mono (hx' : x' < 9218868437227405312) (hy' : y' < 9218868437227405312) (hx : x ≤ x') (hy : y ≤ y') : fmul x y ≤ fmul x' y' :=
  (mul_is (Nat.lt_of_le_of_lt hx hx') (Nat.lt_of_le_of_lt hy hy')).2.le (mul_is hx' hy').2 UT_pos UT_pos (Nat.mul_le_mul_right _ (Nat.mul_le_mul (iv_le hx) (iv_le hy)))
theorem mul_le (hx : x < 9218868437227405312) (hy : y ≤ F1) : fmul x y ≤ x := by
  refine (mul_is hx (Nat.lt_of_le_of_lt hy F1_lt)).2.le (IsR.exact (Nat.le_of_lt hx)) UT_pos (by decide) ?_; rw [Nat.mul_one]
  have := iv_le hy
  rw [iv_one] at this; exact Nat.mul_le_mul_left _ this
theorem div_is (hx : x < 9218868437227405312) (hy : y < 9218868437227405312) (y0 : 0 < y) : double.div x y = some (fdiv x y) ∧ IsR (fdiv x y) (iv x * UT) (iv y) := by
  obtain ⟨z, h1, h2⟩ := div_fin hx hy y0
  have : fdiv x y = z := by unfold fdiv; rw [h1]; rfl
  rw [this]; exact ⟨h1, h2⟩
theorem iv_pos (y0 : 0 < y) : 0 < iv y := Nat.lt_of_le_of_lt (Nat.zero_le _) (iv_lt y0)
theorem div_one (hy : y < 9218868437227405312) (y0 : 0 < y) (hx : x ≤ y) : fdiv x y ≤ F1 := by
  refine (div_is (Nat.lt_of_le_of_lt hx hy) hy y0).2.le (IsR.exact (Nat.le_of_lt F1_lt)) (iv_pos y0) (by decide) ?_; rw [Nat.mul_one, iv_one, Nat.mul_comm]; exact Nat.mul_le_mul_left _ (iv_le hx)
end
/-! integers -/
theorem i2f_is {n : Int} (h : 0 ≤ n) : IsR (i2f n) (n.toNat * UT) 1 := by
  have := int_fin n.toNat
  rw [show (n.toNat : Int) = n by omega] at this; exact this
theorem i2f_mono {a b : Int} (h0 : 0 ≤ a) (h : a ≤ b) : i2f a ≤ i2f b :=
  (i2f_is h0).le (i2f_is (by omega)) (by decide) (by decide) (Nat.mul_le_mul_right _ (Nat.mul_le_mul_right _ (by omega)))
theorem i2f_max : i2f 9223372036854775807 = 4890909195324358656 := by decide +kernel
theorem i2f_le {a : Int} (h0 : 0 ≤ a) (h : a ≤ 9223372036854775807) : i2f a ≤ 4890909195324358656 := by
  rw [← i2f_max]; exact i2f_mono h0 h
/-! clean -/
def cln (x : Nat) : Nat := if isN x then 0 else if key x ≤ 0 then 0 else if key F1 < key x then F1 else x
theorem cln_le {x : Nat} (hx : x < 18446744073709551616) : cln x ≤ F1 := by
  unfold cln
  split
  · exact Nat.zero_le _
  · rename_i h
    split
    · exact Nat.zero_le _
    · split
      · exact Nat.le_refl _
      · rename_i h1 h2
        obtain ⟨a, b⟩ := above_zero hx (by simpa using h) (by omega); rw [key_pos b, key_pos (Nat.le_of_lt F1_lt)] at h2
        have : ¬ iv F1 < iv x := by omega
        rw [iv_lt_iff] at this
        omega
/-! the guess -/
def gs (a c : Int) : Nat := if a < 0 ∨ c < a then 0 else fdiv (fsub (fadd (i2f c) F1) (i2f a)) (fadd (i2f c) F1)
theorem all_max : fadd 4890909195324358656 F1 = 4890909195324358656 := by decide +kernel
theorem gs_facts {a c : Int} (h0 : 0 ≤ a) (hac : a ≤ c) (hc : c ≤ 9223372036854775807) : double.add (i2f c) F1 = some (fadd (i2f c) F1) ∧ double.sub (fadd (i2f c) F1) (i2f a) = some (fsub (fadd (i2f c) F1) (i2f a)) ∧ double.div (fsub (fadd (i2f c) F1) (i2f a)) (fadd (i2f c) F1) = some (fdiv (fsub (fadd (i2f c) F1) (i2f a)) (fadd (i2f c) F1)) ∧ fdiv (fsub (fadd (i2f c) F1) (i2f a)) (fadd (i2f c) F1) ≤ F1 ∧ fadd (i2f c) F1 < 9218868437227405312 ∧ F1 ≤ fadd (i2f c) F1 ∧ i2f a ≤ fadd (i2f c) F1 := by
  have c1 := i2f_le (show 0 ≤ c by omega) hc; have a1 := i2f_mono h0 hac; have w1 := F1_lt; have s1 := add_is (x := i2f c) (y := F1) (by omega) w1
  have b1 : fadd (i2f c) F1 ≤ 4890909195324358656 := by
    have := add_mono (x := i2f c) (y := F1) (x' := 4890909195324358656) (y' := F1) (by decide) (by decide) c1 (Nat.le_refl _)
    rw [all_max] at this; exact this
  have g1 := add_ge_l (x := i2f c) (y := F1) (by omega) (by omega); have g2 := add_ge_r (x := i2f c) (y := F1) (by omega) (by omega)
  have w0 : 0 < F1 := by decide
  have s2 := sub_is (x := fadd (i2f c) F1) (y := i2f a) (by omega) (by omega); have l2 := sub_le (x := fadd (i2f c) F1) (y := i2f a) (by omega) (by omega); have s3 := div_is (x := fsub (fadd (i2f c) F1) (i2f a)) (y := fadd (i2f c) F1) (by omega) (by omega) (by omega); exact ⟨s1.1, s2.1, s3.1, div_one (by omega) (by omega) l2, by omega, g2, by omega⟩
theorem gs_le (a c : Int) (hc : c ≤ 9223372036854775807) : gs a c ≤ F1 := by
  unfold gs
  split
  · exact Nat.zero_le _
  · exact (gs_facts (by omega) (by omega) hc).2.2.2.1
end Go.Proofs.Ytgnkcmmpbohafaa

/- Score, as plain functions of words: chances, costs, sums, which is less. -/
namespace Go.Proofs.Ytgnkcmmpbohafaa
open Ieee
set_option linter.unusedVariables false
set_option linter.unusedSimpArgs false

/-- a past, as numbers -/
structure PV where
  good : Int
  gat : Int
  bad : Int
  bat : Int
def ageN (now th : Int) : Int := if now < th then 0 else if 9223372036854775807 < now - th then 2147483647 else now - th
def c1 (p : PV) (a t : Int) (g : Nat) : Nat := if 0 < p.gat ∧ a ≤ p.good then fadd g (fmul (fsub F1 g) (wt (ageN t p.gat))) else g
def c2 (p : PV) (a t : Int) (g : Nat) : Nat := if 0 < p.bat ∧ p.bad ≤ a then fmul g (fsub F1 (wt (ageN t p.bat))) else g
def chN (p : PV) (a c t : Int) : Nat := if a < 0 ∨ c < a then 0 else cln (c2 p a t (c1 p a t (gs a c)))
theorem two_is : fadd F1 F1 = F2 := by decide +kernel
theorem F2_lt : F2 < 9218868437227405312 := by decide
theorem up_facts {g w : Nat} (hg : g ≤ F1) (hw : w ≤ F1) : double.sub F1 g = some (fsub F1 g) ∧ double.mul (fsub F1 g) w = some (fmul (fsub F1 g) w) ∧ double.add g (fmul (fsub F1 g) w) = some (fadd g (fmul (fsub F1 g) w)) ∧ fadd g (fmul (fsub F1 g) w) ≤ F2 := by
  have w1 := F1_lt; have s1 := sub_is w1 hg; have l1 := sub_le w1 hg; have s2 := mul_is (x := fsub F1 g) (y := w) (by omega) (by omega); have l2 := mul_le (x := fsub F1 g) (y := w) (by omega) hw; have s3 := add_is (x := g) (y := fmul (fsub F1 g) w) (by omega) (by omega); have l3 := add_mono (x := g) (y := fmul (fsub F1 g) w) (x' := F1) (y' := F1) (by omega) (by omega) hg (by omega); rw [two_is] at l3; exact ⟨s1.1, s2.1, s3.1, l3⟩
theorem dn_facts {g w : Nat} (hg : g ≤ F2) (hw : w ≤ F1) : double.sub F1 w = some (fsub F1 w) ∧ double.mul g (fsub F1 w) = some (fmul g (fsub F1 w)) ∧ fmul g (fsub F1 w) ≤ F2 := by
  have w1 := F1_lt; have w2 := F2_lt; have s1 := sub_is w1 hw; have l1 := sub_le w1 hw; have s2 := mul_is (x := g) (y := fsub F1 w) (by omega) (by omega); have l2 := mul_le (x := g) (y := fsub F1 w) (by omega) l1; exact ⟨s1.1, s2.1, by omega⟩
theorem c1_le (p : PV) (a t : Int) {g : Nat} (hg : g ≤ F1) : c1 p a t g ≤ F2 := by
  unfold c1
  split
  · exact (up_facts hg (wt_le _)).2.2.2
  · have : F1 ≤ F2 := by decide
    omega
theorem c2_le (p : PV) (a t : Int) {g : Nat} (hg : g ≤ F2) : c2 p a t g ≤ F2 := by
  unfold c2
  split
  · exact (dn_facts hg (wt_le _)).2.2
  · exact hg
theorem chN_le (p : PV) (a c t : Int) (hc : c ≤ 9223372036854775807) : chN p a c t ≤ F1 := by
  unfold chN
  split
  · exact Nat.zero_le _
  · have h := c2_le p a t (c1_le p a t (gs_le a c hc))
    have := F2_lt
    exact cln_le (by omega)
/-! costs -/
def F10 : Nat := 4621819117588971520
def F100 : Nat := 4636737291354636288
def costN (f d : Int) (x : Nat) : Nat := if f < 0 ∨ d < 0 ∨ cln x = 0 then 9218868437227405312 else fadd (fadd (i2f f) (fmul (i2f d) F10)) (fdiv F100 (cln x))
theorem ten_max : fmul 4890909195324358656 F10 < 9218868437227405312 := by decide +kernel
theorem cost_facts {f d : Int} {c : Nat} (hf : 0 ≤ f) (hf2 : f ≤ 9223372036854775807) (hd : 0 ≤ d) (hd2 : d ≤ 9223372036854775807) (h0 : 0 < c) (hc : c ≤ F1) : double.mul (i2f d) F10 = some (fmul (i2f d) F10) ∧ double.div F100 c = some (fdiv F100 c) ∧ double.add (i2f f) (fmul (i2f d) F10) = some (fadd (i2f f) (fmul (i2f d) F10)) ∧ double.add (fadd (i2f f) (fmul (i2f d) F10)) (fdiv F100 c) = some (fadd (fadd (i2f f) (fmul (i2f d) F10)) (fdiv F100 c)) ∧ i2f f < 9218868437227405312 ∧ fmul (i2f d) F10 < 9218868437227405312 ∧ fadd (i2f f) (fmul (i2f d) F10) ≤ 9218868437227405312 ∧ fdiv F100 c ≤ 9218868437227405312 := by
  have w1 := F1_lt; have f1 := i2f_le hf hf2; have d1 := i2f_le hd hd2; have s1 := mul_is (x := i2f d) (y := F10) (by omega) (by decide); have l1 := mul_mono (x := i2f d) (y := F10) (x' := 4890909195324358656) (y' := F10) (by decide) (by decide) d1 (Nat.le_refl _); have l0 := ten_max; have s2 := div_is (x := F100) (y := c) (by decide) (by omega) h0; have s3 := add_is (x := i2f f) (y := fmul (i2f d) F10) (by omega) (by omega); have s4 := add_some (x := fadd (i2f f) (fmul (i2f d) F10)) (y := fdiv F100 c) s3.2.1 s2.2.1; exact ⟨s1.1, s2.1, s3.1, s4.1, by omega, by omega, s3.2.1, s2.2.1⟩
theorem costN_le (f d : Int) (x : Nat) (hx : x < 18446744073709551616) (hf2 : f ≤ 9223372036854775807) (hd2 : d ≤ 9223372036854775807) : costN f d x ≤ 9218868437227405312 := by
  unfold costN
  split
  · exact Nat.le_refl _
  · have h := cost_facts (f := f) (d := d) (c := cln x) (by omega) hf2 (by omega) hd2 (by omega) (cln_le hx)
    exact (add_some h.2.2.2.2.2.2.1 h.2.2.2.2.2.2.2).2
/-! which is less -/
def lsN (a b : Nat) : Bool := if isN a then false else isN b || decide (key a < key b)
/-! sums -/
def okJ (x : Nat) : Bool := !isN x && decide (0 ≤ key x) && !(x == 9218868437227405312)
def jn : List Nat → Nat → Nat
  | [], s => s
  | x :: l, s => if okJ x then jn l (fadd s x) else 9218868437227405312
theorem okJ_of {x : Nat} (hx : x < 18446744073709551616) (h : okJ x = true) : isN x = false ∧ (x = 9223372036854775808 ∨ x < 9218868437227405312) := by
  unfold okJ at h
  simp only [Bool.and_eq_true, Bool.not_eq_true', decide_eq_true_eq, beq_eq_false_iff_ne] at h
  have := not_below hx h.1.1 h.1.2
  exact ⟨h.1.1, by omega⟩
theorem jn_step {s x : Nat} (hs : s ≤ 9218868437227405312) (hx : x < 18446744073709551616) (h : okJ x = true) : double.add s x = some (fadd s x) ∧ fadd s x ≤ 9218868437227405312 ∧ s ≤ fadd s x ∧ key x ≤ key (fadd s x) := by
  rcases (okJ_of hx h).2 with e | e
  · subst e
    have h1 := add_nought hs
    have h2 : fadd s 9223372036854775808 = s := by unfold fadd; rw [h1]; rfl
    rw [h2]; refine ⟨h1, hs, Nat.le_refl _, ?_⟩; rw [key_pos hs, show key 9223372036854775808 = 0 from by decide +kernel]
    omega
  · have h1 := add_some hs (Nat.le_of_lt e)
    have h2 := add_ge_r hs (Nat.le_of_lt e); refine ⟨h1.1, h1.2, add_ge_l hs (Nat.le_of_lt e), ?_⟩; rw [key_pos h1.2, key_pos (Nat.le_of_lt e)]
    have := iv_le h2
    omega
end Go.Proofs.Ytgnkcmmpbohafaa

/- Doubles: what comparisons answer, case by case. -/
namespace Go.Proofs.Ytgnkcmmpbohafaa
open Ieee
set_option linter.unusedVariables false
set_option linter.unusedSimpArgs false

section
variable {x y : Nat}
theorem no_eq (h : isN x = true ∨ isN y = true) : (double.order x y == some .eq) = false := by rw [order_nan h]; rfl
theorem no_lt (h : isN x = true ∨ isN y = true) : (double.order x y == some .lt) = false := by rw [order_nan h]; rfl
theorem no_gt (h : isN x = true ∨ isN y = true) : (double.order x y == some .gt) = false := by rw [order_nan h]; rfl
theorem no_ge (h : isN x = true ∨ isN y = true) : (double.order x y == some .gt || double.order x y == some .eq) = false := by rw [order_nan h]; rfl
end
theorem is_lt {x y : Nat} (hx : isN x = false) (hy : isN y = false) {c : Bool} (h : decide (key x < key y) = c) : (double.order x y == some .lt) = c := (cmp_lt hx hy).trans h
theorem is_gt {x y : Nat} (hx : isN x = false) (hy : isN y = false) {c : Bool} (h : decide (key y < key x) = c) : (double.order x y == some .gt) = c := (cmp_gt hx hy).trans h
theorem is_eq {x y : Nat} (hx : isN x = false) (hy : isN y = false) {c : Bool} (h : decide (key x = key y) = c) : (double.order x y == some .eq) = c := (cmp_eq hx hy).trans h
theorem is_ge {x y : Nat} (hx : isN x = false) (hy : isN y = false) {c : Bool} (h : decide (key y ≤ key x) = c) : (double.order x y == some .gt || double.order x y == some .eq) = c := by
  rw [cmp_gt hx hy, cmp_eq hx hy, ← h, ← Bool.decide_or]; exact decide_eq_decide.2 (by omega)
theorem N0 : isN 0 = false := by decide
theorem N1 : isN F1 = false := by decide
theorem bind3 {d : Option Nat} {f g : Nat → Option Nat} {z : Nat} (h : (d.bind fun a => (f a).bind fun b => g b) = some z) : ∃ a b, d = some a ∧ f a = some b ∧ g b = some z := by
  cases d with
  | none => cases h
  | some a =>
    rw [Option.bind_some] at h
    cases e2 : f a with
    | none => rw [e2] at h; cases h
    | some b => rw [e2, Option.bind_some] at h; exact ⟨a, b, rfl, e2, h⟩
theorem wt_parts (q r : Nat) (hq : q ≤ 64) (hr : r < 64) : ∃ a b, double.div (FloatKind.f64.nearest (r : Int)) F128 = some a ∧ double.sub F1 a = some b ∧ double.mul (hf q) b = some (wtW q r) := by
  have h := (wt_at q r hq hr).1
  unfold wtO at h
  exact bind3 h
end Go.Proofs.Ytgnkcmmpbohafaa

/- Score over this seat: what the document learns; what is asked of the library. -/
namespace Go.Proofs.Ytgnkcmmpbohafaa
open Go.RowKit
set_option linter.unusedVariables false
set_option linter.unusedSimpArgs false
set_option maxRecDepth 100000

/-- a past, as cells -/
def PL (p : PV) : Array Value := #[.int .i64 p.good, .int .i64 p.gat, .int .i64 p.bad, .int .i64 p.bat]
theorem quo3 {x z : Int} (W : World) (hx : 0 ≤ x) (hx2 : x ≤ 9223372036854775807) (hz : x / 64 = z) : (binOp .quo 3 (.int .i64 x) (.int .i64 64)).run Try.prog W = .ok (.int .i64 z) W := by
  subst hz
  have h1 : Int.tdiv x 64 = x / 64 := Int.tdiv_eq_ediv_of_nonneg hx
  have h2 := IntKind.wrap_i64 (x / 64)
  go_simp
  all_goals omega
theorem rem3 {x z : Int} (W : World) (hx : 0 ≤ x) (hx2 : x ≤ 9223372036854775807) (hz : x % 64 = z) : (binOp .rem 3 (.int .i64 x) (.int .i64 64)).run Try.prog W = .ok (.int .i64 z) W := by
  subst hz
  have h1 : Int.tmod x 64 = x % 64 := Int.tmod_eq_emod_of_nonneg hx
  have h2 := IntKind.wrap_i64 (x % 64)
  go_simp
  all_goals omega
theorem inf_any (w : World) : Calls Try.prog 54 #[.int .i64 1] w fun e w' => e = .returned (.float .f64 9218868437227405312) ∧ Below w.heap.size w w' := by
  have E : Below w.heap.size w w := Below.refl _ _
  go_enter Try.func54, Try.ntmps54; refine wq fun Q hQ => ?_; refine vg (.float .f64 0) 2 rfl rfl rfl rfl ?_; refine st_end ?_; subst hQ; refine wq fun Q hQ => ?_; refine vg (.int .u64 0) 3 rfl rfl rfl rfl ?_; refine st_end ?_; subst hQ; refine wp_seq ?_; refine wq fun Q hQ => ?_; refine vm (.int .i64 1) 4 rfl rfl rfl rfl ?_; refine vv (.bool true) 5 rfl rfl (ex_bin (u := (.int .i64 1)) (r := (.int .i64 0)) rfl rfl rfl (eg3 _ _ _ _ _ _) (geq3 _ (by decide))) ?_; refine st_end ?_; subst hQ; refine wp_cond_true rfl ?_; refine wl_in (wl_cap fun Q hQ => ?_)
  refine vg (.int .u64 9218868437227405312) 3 rfl rfl rfl rfl ?_; refine st_end ?_; subst hQ; refine wq fun Q hQ => ?_; refine vm (.int .u64 9218868437227405312) 6 rfl rfl rfl rfl ?_; refine vv (.float .f64 9218868437227405312) 7 rfl rfl (ex_ext1 rfl rfl (call_frombits 9218868437227405312 _)) ?_; refine vg (.float .f64 9218868437227405312) 2 rfl rfl rfl rfl ?_; refine st_end ?_; subst hQ; refine wp_ret ?_
  repeat (first | refine ret_out ?_ | refine ret_blk ?_)
  exact bodyPost_ret (results_tmp Try.results54 _ _ _) rfl ⟨rfl, E⟩
theorem age_le {x y : Int} (x1 : -9223372036854775808 ≤ x) (x2 : x ≤ 9223372036854775807) (y1 : -9223372036854775808 ≤ y) (y2 : y ≤ 9223372036854775807) : ageN x y ≤ 9223372036854775807 := by
  unfold ageN
  split
  · decide
  · split
    · decide
    · omega
/-- what is known behind what happened -/
def lrnN (p : PV) (a t : Int) (g : Bool) : PV :=
  if a < 1 ∨ t < 1 then p
  else if g then (if p.bad ≤ a then ⟨if p.good < a then a else p.good, t, 0, 0⟩ else ⟨if p.good < a then a else p.good, t, p.bad, p.bat⟩)
  else ⟨if a ≤ p.good then a - 1 else p.good, p.gat, if p.bat = 0 ∨ a < p.bad then a else p.bad, t⟩
/-- n floats lie there -/
def Fs (w : World) (ao : Option Addr) (n : Nat) (z : Nat → Nat) : Prop := n = 0 ∨ ∃ b o, ao = some ⟨b, o, none⟩ ∧ ∀ i, i < n → w.cell? ⟨b, o + i, none⟩ = some (.float .f64 (z i))
theorem Fs.below {w W : World} {ao : Option Addr} {n : Nat} {z : Nat → Nat} (h : Fs w ao n z) (hB : Below w.heap.size w W) : Fs W ao n z := by
  rcases h with h | ⟨b, o, e, h⟩
  · exact .inl h
  · exact .inr ⟨b, o, e, fun i hi => (hB.cell (block_lt_of_cell (h i hi))).trans (h i hi)⟩
/-- their sum, m of them from i on -/
def jk (z : Nat → Nat) : Nat → Nat → Nat → Nat
  | 0, _, s => s
  | m + 1, i, s => if okJ (z i) then jk z m (i + 1) (fadd s (z i)) else 9218868437227405312
theorem jk_jn (z : Nat → Nat) : ∀ m i s, jk z m i s = jn ((List.range' i m).map z) s
  | 0, _, _ => rfl
  | m + 1, i, s => by
    rw [List.range'_succ, List.map_cons]
    unfold jk jn
    rw [jk_jn z m (i + 1)]
section
variable {o : Oper} {a : Act} {W : World}
theorem ex_ixF {x y : Operand} {b p n c k : Nat} (ho : o.op = .indexAddr 50 x y) (hx : a.eval x = .slice (some ⟨b, p, none⟩) n c) (hy : a.eval y = .int .i64 k) (hk : k < n) : (execOp a.eval o).run Try.prog W = .ok (.value (.pointer (some ⟨b, p + k, none⟩))) W := by
  have h1 : (k : Int) < (n : Int) := by omega
  unfold execOp
  simp only [ho, hx, hy]
  go_simp
end

set_option maxHeartbeats 8000000 in
theorem rlearn_any {p : PV} (a t : Int) (g : Bool) (w : World) (a1 : -9223372036854775808 ≤ a) (a2 : a ≤ 9223372036854775807) : Calls Try.prog 70 #[.agg (PL p), .int .i64 a, .int .i64 t, .bool g] w fun e w' => e = .returned (.agg (PL (lrnN p a t g))) ∧ Below w.heap.size w w' := by
  show Calls Try.prog 70 #[.agg #[.int .i64 p.good, .int .i64 p.gat, .int .i64 p.bad, .int .i64 p.bat], .int .i64 a, .int .i64 t, .bool g] w _
  cases g with
  | true =>
    have E : Below w.heap.size w w := Below.refl _ _
    go_enter Try.func70, Try.ntmps70; refine wq fun Q hQ => ?_; refine st_new (fun b => .pointer (some ⟨b, 0, none⟩)) (some 4) rfl rfl (ex_box rfl rfl) ?_; intro b1 W1 k1 g1 B; simp only [zp]; have ge_b1 := Nat.le_trans E.size g1; replace E := below_next E B; clear B; refine st_new (fun b => .pointer (some ⟨b, 0, none⟩)) (some 8) rfl rfl (ex_alloc rfl zero47) ?_; intro b2 W2 k2 g2 B; simp only [zp]
    have ne_b2_b1 : b2 ≠ b1 := fun e => by have := lt_of k1; omega
    have ge_b2 := Nat.le_trans E.size g2; replace E := below_next E B; replace k1 := keep B k1; clear B; refine st_end ?_; subst hQ; refine wp_seq ?_; refine wq fun Q hQ => ?_; refine vm (.int .i64 a) 9 rfl rfl rfl rfl ?_
    by_cases e0 : a < 1
    · skip
      refine vv (.bool true) 10 rfl rfl (ex_bin (u := (.int .i64 a)) (r := (.int .i64 1)) rfl rfl rfl (eg3 _ _ _ _ _ _) (lss3 _ (decide_eq_true (by omega)))) ?_; refine vm (.bool true) 11 rfl rfl rfl rfl ?_; refine vn 12 rfl rfl ?_; refine vn 13 rfl rfl ?_; refine vv (.bool true) 14 rfl rfl (ex_pkT rfl rfl rfl) ?_; refine st_end ?_; subst hQ; refine wp_cond_true rfl ?_; refine wq fun Q hQ => ?_; refine vv (.agg #[.int .i64 p.good, .int .i64 p.gat, .int .i64 p.bad, .int .i64 p.bat]) 15 rfl rfl (ex_load (p := (Pz b1 0)) rfl rfl (ld_all k1 Try.underlying47 rfl inf47)) ?_
      obtain ⟨W3, hst, kn, K⟩ := put_all (D := #[.int .i64 p.good, .int .i64 p.gat, .int .i64 p.bad, .int .i64 p.bat]) k2 rfl inf47 (by kernel_rfl); refine st_sk rfl rfl (ex_store rfl rfl rfl hst) ?_; replace E := below_put E ge_b2 K; replace k1 := keepK K k1 (fun e => by first | exact ne_b1_b2 e | exact ne_b2_b1 e.symm); replace k2 := kn; clear kn K hst; refine st_end ?_; subst hQ; refine wp_ret ?_
      repeat (first | refine ret_out ?_ | refine ret_blk ?_)
      refine bodyPost_ret (results_cell_row Try.results70 _ _ b2 _ _ _ _ rfl k2 Try.underlying47 rfl inf47) rfl ⟨?_, E⟩
      show Ending.returned (.agg #[.int .i64 p.good, .int .i64 p.gat, .int .i64 p.bad, .int .i64 p.bat]) = _
      simp [lrnN, PL, e0]
    · skip
      refine vv (.bool false) 10 rfl rfl (ex_bin (u := (.int .i64 a)) (r := (.int .i64 1)) rfl rfl rfl (eg3 _ _ _ _ _ _) (lss3 _ (decide_eq_false (by omega)))) ?_; refine vm (.bool false) 11 rfl rfl rfl rfl ?_; refine vm (.int .i64 t) 12 rfl rfl rfl rfl ?_
      by_cases e1 : t < 1
      · skip
        refine vv (.bool true) 13 rfl rfl (ex_bin (u := (.int .i64 t)) (r := (.int .i64 1)) rfl rfl rfl (eg3 _ _ _ _ _ _) (lss3 _ (decide_eq_true (by omega)))) ?_; refine vv (.bool true) 14 rfl rfl (ex_pkF rfl rfl rfl) ?_; refine st_end ?_; subst hQ; refine wp_cond_true rfl ?_; refine wq fun Q hQ => ?_; refine vv (.agg #[.int .i64 p.good, .int .i64 p.gat, .int .i64 p.bad, .int .i64 p.bat]) 15 rfl rfl (ex_load (p := (Pz b1 0)) rfl rfl (ld_all k1 Try.underlying47 rfl inf47)) ?_
        obtain ⟨W3, hst, kn, K⟩ := put_all (D := #[.int .i64 p.good, .int .i64 p.gat, .int .i64 p.bad, .int .i64 p.bat]) k2 rfl inf47 (by kernel_rfl); refine st_sk rfl rfl (ex_store rfl rfl rfl hst) ?_; replace E := below_put E ge_b2 K; replace k1 := keepK K k1 (fun e => by first | exact ne_b1_b2 e | exact ne_b2_b1 e.symm); replace k2 := kn; clear kn K hst; refine st_end ?_; subst hQ; refine wp_ret ?_
        repeat (first | refine ret_out ?_ | refine ret_blk ?_)
        refine bodyPost_ret (results_cell_row Try.results70 _ _ b2 _ _ _ _ rfl k2 Try.underlying47 rfl inf47) rfl ⟨?_, E⟩
        show Ending.returned (.agg #[.int .i64 p.good, .int .i64 p.gat, .int .i64 p.bad, .int .i64 p.bat]) = _
        simp [lrnN, PL, e0, e1]
      · skip
        refine vv (.bool false) 13 rfl rfl (ex_bin (u := (.int .i64 t)) (r := (.int .i64 1)) rfl rfl rfl (eg3 _ _ _ _ _ _) (lss3 _ (decide_eq_false (by omega)))) ?_; refine vv (.bool false) 14 rfl rfl (ex_pkF rfl rfl rfl) ?_; refine st_end ?_; subst hQ; refine wp_cond_false rfl ?_; refine wp_skip ?_; refine wp_seq ?_; refine wq fun Q hQ => ?_; refine vm (.bool true) 16 rfl rfl rfl rfl ?_; refine st_end ?_; subst hQ; refine wp_cond_true rfl ?_; refine wp_seq ?_; refine wq fun Q hQ => ?_; refine vm (.int .i64 a) 17 rfl rfl rfl rfl ?_
        refine vv (Pz b1 0) 18 rfl rfl (ex_fa (p := (Pz b1 0)) rfl rfl (fa47_0 _ _)) ?_; refine vv (.int .i64 p.good) 19 rfl rfl (ex_load (p := (Pz b1 0)) rfl rfl (ld3 (at_cell k1 rfl))) ?_
        by_cases e2 : p.good < a
        · skip
          refine vv (.bool true) 20 rfl rfl (ex_bin (u := (.int .i64 a)) (r := (.int .i64 p.good)) rfl rfl rfl (eg3 _ _ _ _ _ _) (gtr3 _ (decide_eq_true (by omega)))) ?_; refine st_end ?_; subst hQ; refine wp_cond_true rfl ?_; refine wl_in (wl_cap fun Q hQ => ?_); refine vm (.int .i64 a) 21 rfl rfl rfl rfl ?_; refine vv (Pz b1 0) 22 rfl rfl (ex_fa (p := (Pz b1 0)) rfl rfl (fa47_0 _ _)) ?_; obtain ⟨kn, K⟩ := put_cell (i := 0) (.int .i64 a) k1; refine st_sk rfl rfl (ex_store rfl rfl rfl (sto3 (at_cell k1 rfl) (unfrozen k1))) ?_
          obtain ⟨W3, hW2⟩ : ∃ W', W2.setCell ⟨b1, 0, none⟩ (.int .i64 a) = W' := ⟨_, rfl⟩; rw [hW2] at kn K ⊢; replace E := below_put E ge_b1 K; replace k2 := keepK K k2 (fun e => by first | exact ne_b2_b1 e | exact ne_b1_b2 e.symm); replace k1 := kn; clear kn K; refine st_end ?_; subst hQ; refine wq fun Q hQ => ?_; refine vm (.int .i64 t) 23 rfl rfl rfl rfl ?_; refine vv (Pz b1 1) 24 rfl rfl (ex_fa (p := (Pz b1 0)) rfl rfl (fa47_1 _ _)) ?_; obtain ⟨kn, K⟩ := put_cell (i := 1) (.int .i64 t) k1; refine st_sk rfl rfl (ex_store rfl rfl rfl (sto3 (at_cell k1 rfl) (unfrozen k1))) ?_
          obtain ⟨W4, hW2⟩ : ∃ W', W3.setCell ⟨b1, 1, none⟩ (.int .i64 t) = W' := ⟨_, rfl⟩; rw [hW2] at kn K ⊢; replace E := below_put E ge_b1 K; replace k2 := keepK K k2 (fun e => by first | exact ne_b2_b1 e | exact ne_b1_b2 e.symm); replace k1 := kn; clear kn K; refine st_end ?_; subst hQ; refine wp_seq ?_; refine wq fun Q hQ => ?_; refine vv (Pz b1 2) 25 rfl rfl (ex_fa (p := (Pz b1 0)) rfl rfl (fa47_2 _ _)) ?_; refine vv (.int .i64 p.bad) 26 rfl rfl (ex_load (p := (Pz b1 2)) rfl rfl (ld3 (at_cell k1 rfl))) ?_; refine vm (.int .i64 a) 27 rfl rfl rfl rfl ?_
          by_cases e3 : p.bad ≤ a
          · skip
            refine vv (.bool true) 28 rfl rfl (ex_bin (u := (.int .i64 p.bad)) (r := (.int .i64 a)) rfl rfl rfl (eg3 _ _ _ _ _ _) (leq3 _ (decide_eq_true (by omega)))) ?_; refine st_end ?_; subst hQ; refine wp_cond_true rfl ?_; refine wl_in (wl_cap fun Q hQ => ?_); refine vv (Pz b1 2) 29 rfl rfl (ex_fa (p := (Pz b1 0)) rfl rfl (fa47_2 _ _)) ?_; obtain ⟨kn, K⟩ := put_cell (i := 2) (.int .i64 0) k1; refine st_sk rfl rfl (ex_store rfl rfl rfl (sto3 (at_cell k1 rfl) (unfrozen k1))) ?_; obtain ⟨W5, hW2⟩ : ∃ W', W4.setCell ⟨b1, 2, none⟩ (.int .i64 0) = W' := ⟨_, rfl⟩; rw [hW2] at kn K ⊢
            replace E := below_put E ge_b1 K; replace k2 := keepK K k2 (fun e => by first | exact ne_b2_b1 e | exact ne_b1_b2 e.symm); replace k1 := kn; clear kn K; refine vv (Pz b1 3) 30 rfl rfl (ex_fa (p := (Pz b1 0)) rfl rfl (fa47_3 _ _)) ?_; obtain ⟨kn, K⟩ := put_cell (i := 3) (.int .i64 0) k1; refine st_sk rfl rfl (ex_store rfl rfl rfl (sto3 (at_cell k1 rfl) (unfrozen k1))) ?_; obtain ⟨W6, hW2⟩ : ∃ W', W5.setCell ⟨b1, 3, none⟩ (.int .i64 0) = W' := ⟨_, rfl⟩; rw [hW2] at kn K ⊢; replace E := below_put E ge_b1 K
            replace k2 := keepK K k2 (fun e => by first | exact ne_b2_b1 e | exact ne_b1_b2 e.symm); replace k1 := kn; clear kn K; refine st_end ?_; subst hQ; refine wq fun Q hQ => ?_; refine vv (.agg #[(.int .i64 a), (.int .i64 t), (.int .i64 0), (.int .i64 0)]) 31 rfl rfl (ex_load (p := (Pz b1 0)) rfl rfl (ld_all k1 Try.underlying47 rfl inf47)) ?_; obtain ⟨W7, hst, kn, K⟩ := put_all (D := #[(.int .i64 a), (.int .i64 t), (.int .i64 0), (.int .i64 0)]) k2 rfl inf47 (by kernel_rfl); refine st_sk rfl rfl (ex_store rfl rfl rfl hst) ?_; replace E := below_put E ge_b2 K
            replace k1 := keepK K k1 (fun e => by first | exact ne_b1_b2 e | exact ne_b2_b1 e.symm); replace k2 := kn; clear kn K hst; refine st_end ?_; subst hQ; refine wp_ret ?_
            repeat (first | refine ret_out ?_ | refine ret_blk ?_)
            refine bodyPost_ret (results_cell_row Try.results70 _ _ b2 _ _ _ _ rfl k2 Try.underlying47 rfl inf47) rfl ⟨?_, E⟩
            show Ending.returned (.agg #[(.int .i64 a), (.int .i64 t), (.int .i64 0), (.int .i64 0)]) = _
            simp [lrnN, PL, e0, e1, e2, e3]
          · skip
            refine vv (.bool false) 28 rfl rfl (ex_bin (u := (.int .i64 p.bad)) (r := (.int .i64 a)) rfl rfl rfl (eg3 _ _ _ _ _ _) (leq3 _ (decide_eq_false (by omega)))) ?_; refine st_end ?_; subst hQ; refine wp_cond_false rfl ?_; refine wp_skip ?_; refine wq fun Q hQ => ?_; refine vv (.agg #[(.int .i64 a), (.int .i64 t), (.int .i64 p.bad), (.int .i64 p.bat)]) 31 rfl rfl (ex_load (p := (Pz b1 0)) rfl rfl (ld_all k1 Try.underlying47 rfl inf47)) ?_
            obtain ⟨W5, hst, kn, K⟩ := put_all (D := #[(.int .i64 a), (.int .i64 t), (.int .i64 p.bad), (.int .i64 p.bat)]) k2 rfl inf47 (by kernel_rfl); refine st_sk rfl rfl (ex_store rfl rfl rfl hst) ?_; replace E := below_put E ge_b2 K; replace k1 := keepK K k1 (fun e => by first | exact ne_b1_b2 e | exact ne_b2_b1 e.symm); replace k2 := kn; clear kn K hst; refine st_end ?_; subst hQ; refine wp_ret ?_
            repeat (first | refine ret_out ?_ | refine ret_blk ?_)
            refine bodyPost_ret (results_cell_row Try.results70 _ _ b2 _ _ _ _ rfl k2 Try.underlying47 rfl inf47) rfl ⟨?_, E⟩
            show Ending.returned (.agg #[(.int .i64 a), (.int .i64 t), (.int .i64 p.bad), (.int .i64 p.bat)]) = _
            simp [lrnN, PL, e0, e1, e2, e3]
        · skip
          refine vv (.bool false) 20 rfl rfl (ex_bin (u := (.int .i64 a)) (r := (.int .i64 p.good)) rfl rfl rfl (eg3 _ _ _ _ _ _) (gtr3 _ (decide_eq_false (by omega)))) ?_; refine st_end ?_; subst hQ; refine wp_cond_false rfl ?_; refine wp_skip ?_; refine wq fun Q hQ => ?_; refine vm (.int .i64 t) 23 rfl rfl rfl rfl ?_; refine vv (Pz b1 1) 24 rfl rfl (ex_fa (p := (Pz b1 0)) rfl rfl (fa47_1 _ _)) ?_; obtain ⟨kn, K⟩ := put_cell (i := 1) (.int .i64 t) k1; refine st_sk rfl rfl (ex_store rfl rfl rfl (sto3 (at_cell k1 rfl) (unfrozen k1))) ?_
          obtain ⟨W3, hW2⟩ : ∃ W', W2.setCell ⟨b1, 1, none⟩ (.int .i64 t) = W' := ⟨_, rfl⟩; rw [hW2] at kn K ⊢; replace E := below_put E ge_b1 K; replace k2 := keepK K k2 (fun e => by first | exact ne_b2_b1 e | exact ne_b1_b2 e.symm); replace k1 := kn; clear kn K; refine st_end ?_; subst hQ; refine wp_seq ?_; refine wq fun Q hQ => ?_; refine vv (Pz b1 2) 25 rfl rfl (ex_fa (p := (Pz b1 0)) rfl rfl (fa47_2 _ _)) ?_; refine vv (.int .i64 p.bad) 26 rfl rfl (ex_load (p := (Pz b1 2)) rfl rfl (ld3 (at_cell k1 rfl))) ?_; refine vm (.int .i64 a) 27 rfl rfl rfl rfl ?_
          by_cases e3 : p.bad ≤ a
          · skip
            refine vv (.bool true) 28 rfl rfl (ex_bin (u := (.int .i64 p.bad)) (r := (.int .i64 a)) rfl rfl rfl (eg3 _ _ _ _ _ _) (leq3 _ (decide_eq_true (by omega)))) ?_; refine st_end ?_; subst hQ; refine wp_cond_true rfl ?_; refine wl_in (wl_cap fun Q hQ => ?_); refine vv (Pz b1 2) 29 rfl rfl (ex_fa (p := (Pz b1 0)) rfl rfl (fa47_2 _ _)) ?_; obtain ⟨kn, K⟩ := put_cell (i := 2) (.int .i64 0) k1; refine st_sk rfl rfl (ex_store rfl rfl rfl (sto3 (at_cell k1 rfl) (unfrozen k1))) ?_; obtain ⟨W4, hW2⟩ : ∃ W', W3.setCell ⟨b1, 2, none⟩ (.int .i64 0) = W' := ⟨_, rfl⟩; rw [hW2] at kn K ⊢
            replace E := below_put E ge_b1 K; replace k2 := keepK K k2 (fun e => by first | exact ne_b2_b1 e | exact ne_b1_b2 e.symm); replace k1 := kn; clear kn K; refine vv (Pz b1 3) 30 rfl rfl (ex_fa (p := (Pz b1 0)) rfl rfl (fa47_3 _ _)) ?_; obtain ⟨kn, K⟩ := put_cell (i := 3) (.int .i64 0) k1; refine st_sk rfl rfl (ex_store rfl rfl rfl (sto3 (at_cell k1 rfl) (unfrozen k1))) ?_; obtain ⟨W5, hW2⟩ : ∃ W', W4.setCell ⟨b1, 3, none⟩ (.int .i64 0) = W' := ⟨_, rfl⟩; rw [hW2] at kn K ⊢; replace E := below_put E ge_b1 K
            replace k2 := keepK K k2 (fun e => by first | exact ne_b2_b1 e | exact ne_b1_b2 e.symm); replace k1 := kn; clear kn K; refine st_end ?_; subst hQ; refine wq fun Q hQ => ?_; refine vv (.agg #[(.int .i64 p.good), (.int .i64 t), (.int .i64 0), (.int .i64 0)]) 31 rfl rfl (ex_load (p := (Pz b1 0)) rfl rfl (ld_all k1 Try.underlying47 rfl inf47)) ?_; obtain ⟨W6, hst, kn, K⟩ := put_all (D := #[(.int .i64 p.good), (.int .i64 t), (.int .i64 0), (.int .i64 0)]) k2 rfl inf47 (by kernel_rfl); refine st_sk rfl rfl (ex_store rfl rfl rfl hst) ?_; replace E := below_put E ge_b2 K
            replace k1 := keepK K k1 (fun e => by first | exact ne_b1_b2 e | exact ne_b2_b1 e.symm); replace k2 := kn; clear kn K hst; refine st_end ?_; subst hQ; refine wp_ret ?_
            repeat (first | refine ret_out ?_ | refine ret_blk ?_)
            refine bodyPost_ret (results_cell_row Try.results70 _ _ b2 _ _ _ _ rfl k2 Try.underlying47 rfl inf47) rfl ⟨?_, E⟩
            show Ending.returned (.agg #[(.int .i64 p.good), (.int .i64 t), (.int .i64 0), (.int .i64 0)]) = _
            simp [lrnN, PL, e0, e1, e2, e3]
          · skip
            refine vv (.bool false) 28 rfl rfl (ex_bin (u := (.int .i64 p.bad)) (r := (.int .i64 a)) rfl rfl rfl (eg3 _ _ _ _ _ _) (leq3 _ (decide_eq_false (by omega)))) ?_; refine st_end ?_; subst hQ; refine wp_cond_false rfl ?_; refine wp_skip ?_; refine wq fun Q hQ => ?_; refine vv (.agg #[(.int .i64 p.good), (.int .i64 t), (.int .i64 p.bad), (.int .i64 p.bat)]) 31 rfl rfl (ex_load (p := (Pz b1 0)) rfl rfl (ld_all k1 Try.underlying47 rfl inf47)) ?_
            obtain ⟨W4, hst, kn, K⟩ := put_all (D := #[(.int .i64 p.good), (.int .i64 t), (.int .i64 p.bad), (.int .i64 p.bat)]) k2 rfl inf47 (by kernel_rfl); refine st_sk rfl rfl (ex_store rfl rfl rfl hst) ?_; replace E := below_put E ge_b2 K; replace k1 := keepK K k1 (fun e => by first | exact ne_b1_b2 e | exact ne_b2_b1 e.symm); replace k2 := kn; clear kn K hst; refine st_end ?_; subst hQ; refine wp_ret ?_
            repeat (first | refine ret_out ?_ | refine ret_blk ?_)
            refine bodyPost_ret (results_cell_row Try.results70 _ _ b2 _ _ _ _ rfl k2 Try.underlying47 rfl inf47) rfl ⟨?_, E⟩
            show Ending.returned (.agg #[(.int .i64 p.good), (.int .i64 t), (.int .i64 p.bad), (.int .i64 p.bat)]) = _
            simp [lrnN, PL, e0, e1, e2, e3]
  | false =>
    have E : Below w.heap.size w w := Below.refl _ _
    go_enter Try.func70, Try.ntmps70; refine wq fun Q hQ => ?_; refine st_new (fun b => .pointer (some ⟨b, 0, none⟩)) (some 4) rfl rfl (ex_box rfl rfl) ?_; intro b1 W1 k1 g1 B; simp only [zp]; have ge_b1 := Nat.le_trans E.size g1; replace E := below_next E B; clear B; refine st_new (fun b => .pointer (some ⟨b, 0, none⟩)) (some 8) rfl rfl (ex_alloc rfl zero47) ?_; intro b2 W2 k2 g2 B; simp only [zp]
    have ne_b2_b1 : b2 ≠ b1 := fun e => by have := lt_of k1; omega
    have ge_b2 := Nat.le_trans E.size g2; replace E := below_next E B; replace k1 := keep B k1; clear B; refine st_end ?_; subst hQ; refine wp_seq ?_; refine wq fun Q hQ => ?_; refine vm (.int .i64 a) 9 rfl rfl rfl rfl ?_
    by_cases e0 : a < 1
    · skip
      refine vv (.bool true) 10 rfl rfl (ex_bin (u := (.int .i64 a)) (r := (.int .i64 1)) rfl rfl rfl (eg3 _ _ _ _ _ _) (lss3 _ (decide_eq_true (by omega)))) ?_; refine vm (.bool true) 11 rfl rfl rfl rfl ?_; refine vn 12 rfl rfl ?_; refine vn 13 rfl rfl ?_; refine vv (.bool true) 14 rfl rfl (ex_pkT rfl rfl rfl) ?_; refine st_end ?_; subst hQ; refine wp_cond_true rfl ?_; refine wq fun Q hQ => ?_; refine vv (.agg #[.int .i64 p.good, .int .i64 p.gat, .int .i64 p.bad, .int .i64 p.bat]) 15 rfl rfl (ex_load (p := (Pz b1 0)) rfl rfl (ld_all k1 Try.underlying47 rfl inf47)) ?_
      obtain ⟨W3, hst, kn, K⟩ := put_all (D := #[.int .i64 p.good, .int .i64 p.gat, .int .i64 p.bad, .int .i64 p.bat]) k2 rfl inf47 (by kernel_rfl); refine st_sk rfl rfl (ex_store rfl rfl rfl hst) ?_; replace E := below_put E ge_b2 K; replace k1 := keepK K k1 (fun e => by first | exact ne_b1_b2 e | exact ne_b2_b1 e.symm); replace k2 := kn; clear kn K hst; refine st_end ?_; subst hQ; refine wp_ret ?_
      repeat (first | refine ret_out ?_ | refine ret_blk ?_)
      refine bodyPost_ret (results_cell_row Try.results70 _ _ b2 _ _ _ _ rfl k2 Try.underlying47 rfl inf47) rfl ⟨?_, E⟩
      show Ending.returned (.agg #[.int .i64 p.good, .int .i64 p.gat, .int .i64 p.bad, .int .i64 p.bat]) = _
      simp [lrnN, PL, e0]
    · skip
      refine vv (.bool false) 10 rfl rfl (ex_bin (u := (.int .i64 a)) (r := (.int .i64 1)) rfl rfl rfl (eg3 _ _ _ _ _ _) (lss3 _ (decide_eq_false (by omega)))) ?_; refine vm (.bool false) 11 rfl rfl rfl rfl ?_; refine vm (.int .i64 t) 12 rfl rfl rfl rfl ?_
      by_cases e1 : t < 1
      · skip
        refine vv (.bool true) 13 rfl rfl (ex_bin (u := (.int .i64 t)) (r := (.int .i64 1)) rfl rfl rfl (eg3 _ _ _ _ _ _) (lss3 _ (decide_eq_true (by omega)))) ?_; refine vv (.bool true) 14 rfl rfl (ex_pkF rfl rfl rfl) ?_; refine st_end ?_; subst hQ; refine wp_cond_true rfl ?_; refine wq fun Q hQ => ?_; refine vv (.agg #[.int .i64 p.good, .int .i64 p.gat, .int .i64 p.bad, .int .i64 p.bat]) 15 rfl rfl (ex_load (p := (Pz b1 0)) rfl rfl (ld_all k1 Try.underlying47 rfl inf47)) ?_
        obtain ⟨W3, hst, kn, K⟩ := put_all (D := #[.int .i64 p.good, .int .i64 p.gat, .int .i64 p.bad, .int .i64 p.bat]) k2 rfl inf47 (by kernel_rfl); refine st_sk rfl rfl (ex_store rfl rfl rfl hst) ?_; replace E := below_put E ge_b2 K; replace k1 := keepK K k1 (fun e => by first | exact ne_b1_b2 e | exact ne_b2_b1 e.symm); replace k2 := kn; clear kn K hst; refine st_end ?_; subst hQ; refine wp_ret ?_
        repeat (first | refine ret_out ?_ | refine ret_blk ?_)
        refine bodyPost_ret (results_cell_row Try.results70 _ _ b2 _ _ _ _ rfl k2 Try.underlying47 rfl inf47) rfl ⟨?_, E⟩
        show Ending.returned (.agg #[.int .i64 p.good, .int .i64 p.gat, .int .i64 p.bad, .int .i64 p.bat]) = _
        simp [lrnN, PL, e0, e1]
      · skip
        refine vv (.bool false) 13 rfl rfl (ex_bin (u := (.int .i64 t)) (r := (.int .i64 1)) rfl rfl rfl (eg3 _ _ _ _ _ _) (lss3 _ (decide_eq_false (by omega)))) ?_; refine vv (.bool false) 14 rfl rfl (ex_pkF rfl rfl rfl) ?_; refine st_end ?_; subst hQ; refine wp_cond_false rfl ?_; refine wp_skip ?_; refine wp_seq ?_; refine wq fun Q hQ => ?_; refine vm (.bool false) 16 rfl rfl rfl rfl ?_; refine st_end ?_; subst hQ; refine wp_cond_false rfl ?_; refine wp_skip ?_; refine wp_seq ?_; refine wq fun Q hQ => ?_; refine vv (Pz b1 3) 32 rfl rfl (ex_fa (p := (Pz b1 0)) rfl rfl (fa47_3 _ _)) ?_
        refine vv (.int .i64 p.bat) 33 rfl rfl (ex_load (p := (Pz b1 3)) rfl rfl (ld3 (at_cell k1 rfl))) ?_
        by_cases e2 : p.bat = 0
        · skip
          refine vv (.bool true) 34 rfl rfl (ex_bin (u := (.int .i64 p.bat)) (r := (.int .i64 0)) rfl rfl rfl (eg3 _ _ _ _ _ _) (eql3 _ (decide_eq_true (by omega)))) ?_; refine vm (.bool true) 35 rfl rfl rfl rfl ?_; refine vn 36 rfl rfl ?_; refine vn 37 rfl rfl ?_; refine vn 38 rfl rfl ?_; refine vn 39 rfl rfl ?_; refine vv (.bool true) 40 rfl rfl (ex_pkT rfl rfl rfl) ?_; refine st_end ?_; subst hQ; refine wp_cond_true rfl ?_; refine wl_in (wl_cap fun Q hQ => ?_); refine vm (.int .i64 a) 41 rfl rfl rfl rfl ?_
          refine vv (Pz b1 2) 42 rfl rfl (ex_fa (p := (Pz b1 0)) rfl rfl (fa47_2 _ _)) ?_; obtain ⟨kn, K⟩ := put_cell (i := 2) (.int .i64 a) k1; refine st_sk rfl rfl (ex_store rfl rfl rfl (sto3 (at_cell k1 rfl) (unfrozen k1))) ?_; obtain ⟨W3, hW2⟩ : ∃ W', W2.setCell ⟨b1, 2, none⟩ (.int .i64 a) = W' := ⟨_, rfl⟩; rw [hW2] at kn K ⊢; replace E := below_put E ge_b1 K; replace k2 := keepK K k2 (fun e => by first | exact ne_b2_b1 e | exact ne_b1_b2 e.symm); replace k1 := kn; clear kn K; refine st_end ?_; subst hQ; refine wq fun Q hQ => ?_; refine vm (.int .i64 t) 43 rfl rfl rfl rfl ?_
          refine vv (Pz b1 3) 44 rfl rfl (ex_fa (p := (Pz b1 0)) rfl rfl (fa47_3 _ _)) ?_; obtain ⟨kn, K⟩ := put_cell (i := 3) (.int .i64 t) k1; refine st_sk rfl rfl (ex_store rfl rfl rfl (sto3 (at_cell k1 rfl) (unfrozen k1))) ?_; obtain ⟨W4, hW2⟩ : ∃ W', W3.setCell ⟨b1, 3, none⟩ (.int .i64 t) = W' := ⟨_, rfl⟩; rw [hW2] at kn K ⊢; replace E := below_put E ge_b1 K; replace k2 := keepK K k2 (fun e => by first | exact ne_b2_b1 e | exact ne_b1_b2 e.symm); replace k1 := kn; clear kn K; refine st_end ?_; subst hQ; refine wp_seq ?_; refine wq fun Q hQ => ?_
          refine vv (Pz b1 0) 45 rfl rfl (ex_fa (p := (Pz b1 0)) rfl rfl (fa47_0 _ _)) ?_; refine vv (.int .i64 p.good) 46 rfl rfl (ex_load (p := (Pz b1 0)) rfl rfl (ld3 (at_cell k1 rfl))) ?_; refine vm (.int .i64 a) 47 rfl rfl rfl rfl ?_
          by_cases e3 : a < p.bad
          · skip
            by_cases e4 : a ≤ p.good
            · skip
              refine vv (.bool true) 48 rfl rfl (ex_bin (u := (.int .i64 p.good)) (r := (.int .i64 a)) rfl rfl rfl (eg3 _ _ _ _ _ _) (geq3 _ (decide_eq_true (by omega)))) ?_; refine st_end ?_; subst hQ; refine wp_cond_true rfl ?_; refine wl_in (wl_cap fun Q hQ => ?_); refine vm (.int .i64 a) 49 rfl rfl rfl rfl ?_; refine vv (.int .i64 (a - 1)) 50 rfl rfl (ex_bin rfl rfl rfl (eg3 _ _ _ _ _ _) (sub3 _ rfl (by omega))) ?_; refine vv (Pz b1 0) 51 rfl rfl (ex_fa (p := (Pz b1 0)) rfl rfl (fa47_0 _ _)) ?_; obtain ⟨kn, K⟩ := put_cell (i := 0) (.int .i64 (a - 1)) k1
              refine st_sk rfl rfl (ex_store rfl rfl rfl (sto3 (at_cell k1 rfl) (unfrozen k1))) ?_; obtain ⟨W5, hW2⟩ : ∃ W', W4.setCell ⟨b1, 0, none⟩ (.int .i64 (a - 1)) = W' := ⟨_, rfl⟩; rw [hW2] at kn K ⊢; replace E := below_put E ge_b1 K; replace k2 := keepK K k2 (fun e => by first | exact ne_b2_b1 e | exact ne_b1_b2 e.symm); replace k1 := kn; clear kn K; refine st_end ?_; subst hQ; refine wq fun Q hQ => ?_
              refine vv (.agg #[(.int .i64 (a - 1)), (.int .i64 p.gat), (.int .i64 a), (.int .i64 t)]) 52 rfl rfl (ex_load (p := (Pz b1 0)) rfl rfl (ld_all k1 Try.underlying47 rfl inf47)) ?_; obtain ⟨W6, hst, kn, K⟩ := put_all (D := #[(.int .i64 (a - 1)), (.int .i64 p.gat), (.int .i64 a), (.int .i64 t)]) k2 rfl inf47 (by kernel_rfl); refine st_sk rfl rfl (ex_store rfl rfl rfl hst) ?_; replace E := below_put E ge_b2 K; replace k1 := keepK K k1 (fun e => by first | exact ne_b1_b2 e | exact ne_b2_b1 e.symm); replace k2 := kn; clear kn K hst; refine st_end ?_; subst hQ
              refine wp_ret ?_
              repeat (first | refine ret_out ?_ | refine ret_blk ?_)
              refine bodyPost_ret (results_cell_row Try.results70 _ _ b2 _ _ _ _ rfl k2 Try.underlying47 rfl inf47) rfl ⟨?_, E⟩
              show Ending.returned (.agg #[(.int .i64 (a - 1)), (.int .i64 p.gat), (.int .i64 a), (.int .i64 t)]) = _
              simp [lrnN, PL, e0, e1, e2, e3, e4]
            · skip
              refine vv (.bool false) 48 rfl rfl (ex_bin (u := (.int .i64 p.good)) (r := (.int .i64 a)) rfl rfl rfl (eg3 _ _ _ _ _ _) (geq3 _ (decide_eq_false (by omega)))) ?_; refine st_end ?_; subst hQ; refine wp_cond_false rfl ?_; refine wp_skip ?_; refine wq fun Q hQ => ?_; refine vv (.agg #[(.int .i64 p.good), (.int .i64 p.gat), (.int .i64 a), (.int .i64 t)]) 52 rfl rfl (ex_load (p := (Pz b1 0)) rfl rfl (ld_all k1 Try.underlying47 rfl inf47)) ?_
              obtain ⟨W5, hst, kn, K⟩ := put_all (D := #[(.int .i64 p.good), (.int .i64 p.gat), (.int .i64 a), (.int .i64 t)]) k2 rfl inf47 (by kernel_rfl); refine st_sk rfl rfl (ex_store rfl rfl rfl hst) ?_; replace E := below_put E ge_b2 K; replace k1 := keepK K k1 (fun e => by first | exact ne_b1_b2 e | exact ne_b2_b1 e.symm); replace k2 := kn; clear kn K hst; refine st_end ?_; subst hQ; refine wp_ret ?_
              repeat (first | refine ret_out ?_ | refine ret_blk ?_)
              refine bodyPost_ret (results_cell_row Try.results70 _ _ b2 _ _ _ _ rfl k2 Try.underlying47 rfl inf47) rfl ⟨?_, E⟩
              show Ending.returned (.agg #[(.int .i64 p.good), (.int .i64 p.gat), (.int .i64 a), (.int .i64 t)]) = _
              simp [lrnN, PL, e0, e1, e2, e3, e4]
          · skip
            by_cases e4 : a ≤ p.good
            · skip
              refine vv (.bool true) 48 rfl rfl (ex_bin (u := (.int .i64 p.good)) (r := (.int .i64 a)) rfl rfl rfl (eg3 _ _ _ _ _ _) (geq3 _ (decide_eq_true (by omega)))) ?_; refine st_end ?_; subst hQ; refine wp_cond_true rfl ?_; refine wl_in (wl_cap fun Q hQ => ?_); refine vm (.int .i64 a) 49 rfl rfl rfl rfl ?_; refine vv (.int .i64 (a - 1)) 50 rfl rfl (ex_bin rfl rfl rfl (eg3 _ _ _ _ _ _) (sub3 _ rfl (by omega))) ?_; refine vv (Pz b1 0) 51 rfl rfl (ex_fa (p := (Pz b1 0)) rfl rfl (fa47_0 _ _)) ?_; obtain ⟨kn, K⟩ := put_cell (i := 0) (.int .i64 (a - 1)) k1
              refine st_sk rfl rfl (ex_store rfl rfl rfl (sto3 (at_cell k1 rfl) (unfrozen k1))) ?_; obtain ⟨W5, hW2⟩ : ∃ W', W4.setCell ⟨b1, 0, none⟩ (.int .i64 (a - 1)) = W' := ⟨_, rfl⟩; rw [hW2] at kn K ⊢; replace E := below_put E ge_b1 K; replace k2 := keepK K k2 (fun e => by first | exact ne_b2_b1 e | exact ne_b1_b2 e.symm); replace k1 := kn; clear kn K; refine st_end ?_; subst hQ; refine wq fun Q hQ => ?_
              refine vv (.agg #[(.int .i64 (a - 1)), (.int .i64 p.gat), (.int .i64 a), (.int .i64 t)]) 52 rfl rfl (ex_load (p := (Pz b1 0)) rfl rfl (ld_all k1 Try.underlying47 rfl inf47)) ?_; obtain ⟨W6, hst, kn, K⟩ := put_all (D := #[(.int .i64 (a - 1)), (.int .i64 p.gat), (.int .i64 a), (.int .i64 t)]) k2 rfl inf47 (by kernel_rfl); refine st_sk rfl rfl (ex_store rfl rfl rfl hst) ?_; replace E := below_put E ge_b2 K; replace k1 := keepK K k1 (fun e => by first | exact ne_b1_b2 e | exact ne_b2_b1 e.symm); replace k2 := kn; clear kn K hst; refine st_end ?_; subst hQ
              refine wp_ret ?_
              repeat (first | refine ret_out ?_ | refine ret_blk ?_)
              refine bodyPost_ret (results_cell_row Try.results70 _ _ b2 _ _ _ _ rfl k2 Try.underlying47 rfl inf47) rfl ⟨?_, E⟩
              show Ending.returned (.agg #[(.int .i64 (a - 1)), (.int .i64 p.gat), (.int .i64 a), (.int .i64 t)]) = _
              simp [lrnN, PL, e0, e1, e2, e3, e4]
            · skip
              refine vv (.bool false) 48 rfl rfl (ex_bin (u := (.int .i64 p.good)) (r := (.int .i64 a)) rfl rfl rfl (eg3 _ _ _ _ _ _) (geq3 _ (decide_eq_false (by omega)))) ?_; refine st_end ?_; subst hQ; refine wp_cond_false rfl ?_; refine wp_skip ?_; refine wq fun Q hQ => ?_; refine vv (.agg #[(.int .i64 p.good), (.int .i64 p.gat), (.int .i64 a), (.int .i64 t)]) 52 rfl rfl (ex_load (p := (Pz b1 0)) rfl rfl (ld_all k1 Try.underlying47 rfl inf47)) ?_
              obtain ⟨W5, hst, kn, K⟩ := put_all (D := #[(.int .i64 p.good), (.int .i64 p.gat), (.int .i64 a), (.int .i64 t)]) k2 rfl inf47 (by kernel_rfl); refine st_sk rfl rfl (ex_store rfl rfl rfl hst) ?_; replace E := below_put E ge_b2 K; replace k1 := keepK K k1 (fun e => by first | exact ne_b1_b2 e | exact ne_b2_b1 e.symm); replace k2 := kn; clear kn K hst; refine st_end ?_; subst hQ; refine wp_ret ?_
              repeat (first | refine ret_out ?_ | refine ret_blk ?_)
              refine bodyPost_ret (results_cell_row Try.results70 _ _ b2 _ _ _ _ rfl k2 Try.underlying47 rfl inf47) rfl ⟨?_, E⟩
              show Ending.returned (.agg #[(.int .i64 p.good), (.int .i64 p.gat), (.int .i64 a), (.int .i64 t)]) = _
              simp [lrnN, PL, e0, e1, e2, e3, e4]
        · skip
          refine vv (.bool false) 34 rfl rfl (ex_bin (u := (.int .i64 p.bat)) (r := (.int .i64 0)) rfl rfl rfl (eg3 _ _ _ _ _ _) (eql3 _ (decide_eq_false (by omega)))) ?_; refine vm (.bool false) 35 rfl rfl rfl rfl ?_; refine vm (.int .i64 a) 36 rfl rfl rfl rfl ?_; refine vv (Pz b1 2) 37 rfl rfl (ex_fa (p := (Pz b1 0)) rfl rfl (fa47_2 _ _)) ?_; refine vv (.int .i64 p.bad) 38 rfl rfl (ex_load (p := (Pz b1 2)) rfl rfl (ld3 (at_cell k1 rfl))) ?_
          by_cases e3 : a < p.bad
          · skip
            refine vv (.bool true) 39 rfl rfl (ex_bin (u := (.int .i64 a)) (r := (.int .i64 p.bad)) rfl rfl rfl (eg3 _ _ _ _ _ _) (lss3 _ (decide_eq_true (by omega)))) ?_; refine vv (.bool true) 40 rfl rfl (ex_pkF rfl rfl rfl) ?_; refine st_end ?_; subst hQ; refine wp_cond_true rfl ?_; refine wl_in (wl_cap fun Q hQ => ?_); refine vm (.int .i64 a) 41 rfl rfl rfl rfl ?_; refine vv (Pz b1 2) 42 rfl rfl (ex_fa (p := (Pz b1 0)) rfl rfl (fa47_2 _ _)) ?_; obtain ⟨kn, K⟩ := put_cell (i := 2) (.int .i64 a) k1
            refine st_sk rfl rfl (ex_store rfl rfl rfl (sto3 (at_cell k1 rfl) (unfrozen k1))) ?_; obtain ⟨W3, hW2⟩ : ∃ W', W2.setCell ⟨b1, 2, none⟩ (.int .i64 a) = W' := ⟨_, rfl⟩; rw [hW2] at kn K ⊢; replace E := below_put E ge_b1 K; replace k2 := keepK K k2 (fun e => by first | exact ne_b2_b1 e | exact ne_b1_b2 e.symm); replace k1 := kn; clear kn K; refine st_end ?_; subst hQ; refine wq fun Q hQ => ?_; refine vm (.int .i64 t) 43 rfl rfl rfl rfl ?_; refine vv (Pz b1 3) 44 rfl rfl (ex_fa (p := (Pz b1 0)) rfl rfl (fa47_3 _ _)) ?_; obtain ⟨kn, K⟩ := put_cell (i := 3) (.int .i64 t) k1
            refine st_sk rfl rfl (ex_store rfl rfl rfl (sto3 (at_cell k1 rfl) (unfrozen k1))) ?_; obtain ⟨W4, hW2⟩ : ∃ W', W3.setCell ⟨b1, 3, none⟩ (.int .i64 t) = W' := ⟨_, rfl⟩; rw [hW2] at kn K ⊢; replace E := below_put E ge_b1 K; replace k2 := keepK K k2 (fun e => by first | exact ne_b2_b1 e | exact ne_b1_b2 e.symm); replace k1 := kn; clear kn K; refine st_end ?_; subst hQ; refine wp_seq ?_; refine wq fun Q hQ => ?_; refine vv (Pz b1 0) 45 rfl rfl (ex_fa (p := (Pz b1 0)) rfl rfl (fa47_0 _ _)) ?_
            refine vv (.int .i64 p.good) 46 rfl rfl (ex_load (p := (Pz b1 0)) rfl rfl (ld3 (at_cell k1 rfl))) ?_; refine vm (.int .i64 a) 47 rfl rfl rfl rfl ?_
            by_cases e4 : a ≤ p.good
            · skip
              refine vv (.bool true) 48 rfl rfl (ex_bin (u := (.int .i64 p.good)) (r := (.int .i64 a)) rfl rfl rfl (eg3 _ _ _ _ _ _) (geq3 _ (decide_eq_true (by omega)))) ?_; refine st_end ?_; subst hQ; refine wp_cond_true rfl ?_; refine wl_in (wl_cap fun Q hQ => ?_); refine vm (.int .i64 a) 49 rfl rfl rfl rfl ?_; refine vv (.int .i64 (a - 1)) 50 rfl rfl (ex_bin rfl rfl rfl (eg3 _ _ _ _ _ _) (sub3 _ rfl (by omega))) ?_; refine vv (Pz b1 0) 51 rfl rfl (ex_fa (p := (Pz b1 0)) rfl rfl (fa47_0 _ _)) ?_; obtain ⟨kn, K⟩ := put_cell (i := 0) (.int .i64 (a - 1)) k1
              refine st_sk rfl rfl (ex_store rfl rfl rfl (sto3 (at_cell k1 rfl) (unfrozen k1))) ?_; obtain ⟨W5, hW2⟩ : ∃ W', W4.setCell ⟨b1, 0, none⟩ (.int .i64 (a - 1)) = W' := ⟨_, rfl⟩; rw [hW2] at kn K ⊢; replace E := below_put E ge_b1 K; replace k2 := keepK K k2 (fun e => by first | exact ne_b2_b1 e | exact ne_b1_b2 e.symm); replace k1 := kn; clear kn K; refine st_end ?_; subst hQ; refine wq fun Q hQ => ?_
              refine vv (.agg #[(.int .i64 (a - 1)), (.int .i64 p.gat), (.int .i64 a), (.int .i64 t)]) 52 rfl rfl (ex_load (p := (Pz b1 0)) rfl rfl (ld_all k1 Try.underlying47 rfl inf47)) ?_; obtain ⟨W6, hst, kn, K⟩ := put_all (D := #[(.int .i64 (a - 1)), (.int .i64 p.gat), (.int .i64 a), (.int .i64 t)]) k2 rfl inf47 (by kernel_rfl); refine st_sk rfl rfl (ex_store rfl rfl rfl hst) ?_; replace E := below_put E ge_b2 K; replace k1 := keepK K k1 (fun e => by first | exact ne_b1_b2 e | exact ne_b2_b1 e.symm); replace k2 := kn; clear kn K hst; refine st_end ?_; subst hQ
              refine wp_ret ?_
              repeat (first | refine ret_out ?_ | refine ret_blk ?_)
              refine bodyPost_ret (results_cell_row Try.results70 _ _ b2 _ _ _ _ rfl k2 Try.underlying47 rfl inf47) rfl ⟨?_, E⟩
              show Ending.returned (.agg #[(.int .i64 (a - 1)), (.int .i64 p.gat), (.int .i64 a), (.int .i64 t)]) = _
              simp [lrnN, PL, e0, e1, e2, e3, e4]
            · skip
              refine vv (.bool false) 48 rfl rfl (ex_bin (u := (.int .i64 p.good)) (r := (.int .i64 a)) rfl rfl rfl (eg3 _ _ _ _ _ _) (geq3 _ (decide_eq_false (by omega)))) ?_; refine st_end ?_; subst hQ; refine wp_cond_false rfl ?_; refine wp_skip ?_; refine wq fun Q hQ => ?_; refine vv (.agg #[(.int .i64 p.good), (.int .i64 p.gat), (.int .i64 a), (.int .i64 t)]) 52 rfl rfl (ex_load (p := (Pz b1 0)) rfl rfl (ld_all k1 Try.underlying47 rfl inf47)) ?_
              obtain ⟨W5, hst, kn, K⟩ := put_all (D := #[(.int .i64 p.good), (.int .i64 p.gat), (.int .i64 a), (.int .i64 t)]) k2 rfl inf47 (by kernel_rfl); refine st_sk rfl rfl (ex_store rfl rfl rfl hst) ?_; replace E := below_put E ge_b2 K; replace k1 := keepK K k1 (fun e => by first | exact ne_b1_b2 e | exact ne_b2_b1 e.symm); replace k2 := kn; clear kn K hst; refine st_end ?_; subst hQ; refine wp_ret ?_
              repeat (first | refine ret_out ?_ | refine ret_blk ?_)
              refine bodyPost_ret (results_cell_row Try.results70 _ _ b2 _ _ _ _ rfl k2 Try.underlying47 rfl inf47) rfl ⟨?_, E⟩
              show Ending.returned (.agg #[(.int .i64 p.good), (.int .i64 p.gat), (.int .i64 a), (.int .i64 t)]) = _
              simp [lrnN, PL, e0, e1, e2, e3, e4]
          · skip
            refine vv (.bool false) 39 rfl rfl (ex_bin (u := (.int .i64 a)) (r := (.int .i64 p.bad)) rfl rfl rfl (eg3 _ _ _ _ _ _) (lss3 _ (decide_eq_false (by omega)))) ?_; refine vv (.bool false) 40 rfl rfl (ex_pkF rfl rfl rfl) ?_; refine st_end ?_; subst hQ; refine wp_cond_false rfl ?_; refine wp_skip ?_; refine wq fun Q hQ => ?_; refine vm (.int .i64 t) 43 rfl rfl rfl rfl ?_; refine vv (Pz b1 3) 44 rfl rfl (ex_fa (p := (Pz b1 0)) rfl rfl (fa47_3 _ _)) ?_; obtain ⟨kn, K⟩ := put_cell (i := 3) (.int .i64 t) k1
            refine st_sk rfl rfl (ex_store rfl rfl rfl (sto3 (at_cell k1 rfl) (unfrozen k1))) ?_; obtain ⟨W3, hW2⟩ : ∃ W', W2.setCell ⟨b1, 3, none⟩ (.int .i64 t) = W' := ⟨_, rfl⟩; rw [hW2] at kn K ⊢; replace E := below_put E ge_b1 K; replace k2 := keepK K k2 (fun e => by first | exact ne_b2_b1 e | exact ne_b1_b2 e.symm); replace k1 := kn; clear kn K; refine st_end ?_; subst hQ; refine wp_seq ?_; refine wq fun Q hQ => ?_; refine vv (Pz b1 0) 45 rfl rfl (ex_fa (p := (Pz b1 0)) rfl rfl (fa47_0 _ _)) ?_
            refine vv (.int .i64 p.good) 46 rfl rfl (ex_load (p := (Pz b1 0)) rfl rfl (ld3 (at_cell k1 rfl))) ?_; refine vm (.int .i64 a) 47 rfl rfl rfl rfl ?_
            by_cases e4 : a ≤ p.good
            · skip
              refine vv (.bool true) 48 rfl rfl (ex_bin (u := (.int .i64 p.good)) (r := (.int .i64 a)) rfl rfl rfl (eg3 _ _ _ _ _ _) (geq3 _ (decide_eq_true (by omega)))) ?_; refine st_end ?_; subst hQ; refine wp_cond_true rfl ?_; refine wl_in (wl_cap fun Q hQ => ?_); refine vm (.int .i64 a) 49 rfl rfl rfl rfl ?_; refine vv (.int .i64 (a - 1)) 50 rfl rfl (ex_bin rfl rfl rfl (eg3 _ _ _ _ _ _) (sub3 _ rfl (by omega))) ?_; refine vv (Pz b1 0) 51 rfl rfl (ex_fa (p := (Pz b1 0)) rfl rfl (fa47_0 _ _)) ?_; obtain ⟨kn, K⟩ := put_cell (i := 0) (.int .i64 (a - 1)) k1
              refine st_sk rfl rfl (ex_store rfl rfl rfl (sto3 (at_cell k1 rfl) (unfrozen k1))) ?_; obtain ⟨W4, hW2⟩ : ∃ W', W3.setCell ⟨b1, 0, none⟩ (.int .i64 (a - 1)) = W' := ⟨_, rfl⟩; rw [hW2] at kn K ⊢; replace E := below_put E ge_b1 K; replace k2 := keepK K k2 (fun e => by first | exact ne_b2_b1 e | exact ne_b1_b2 e.symm); replace k1 := kn; clear kn K; refine st_end ?_; subst hQ; refine wq fun Q hQ => ?_
              refine vv (.agg #[(.int .i64 (a - 1)), (.int .i64 p.gat), (.int .i64 p.bad), (.int .i64 t)]) 52 rfl rfl (ex_load (p := (Pz b1 0)) rfl rfl (ld_all k1 Try.underlying47 rfl inf47)) ?_; obtain ⟨W5, hst, kn, K⟩ := put_all (D := #[(.int .i64 (a - 1)), (.int .i64 p.gat), (.int .i64 p.bad), (.int .i64 t)]) k2 rfl inf47 (by kernel_rfl); refine st_sk rfl rfl (ex_store rfl rfl rfl hst) ?_; replace E := below_put E ge_b2 K; replace k1 := keepK K k1 (fun e => by first | exact ne_b1_b2 e | exact ne_b2_b1 e.symm); replace k2 := kn; clear kn K hst; refine st_end ?_; subst hQ
              refine wp_ret ?_
              repeat (first | refine ret_out ?_ | refine ret_blk ?_)
              refine bodyPost_ret (results_cell_row Try.results70 _ _ b2 _ _ _ _ rfl k2 Try.underlying47 rfl inf47) rfl ⟨?_, E⟩
              show Ending.returned (.agg #[(.int .i64 (a - 1)), (.int .i64 p.gat), (.int .i64 p.bad), (.int .i64 t)]) = _
              simp [lrnN, PL, e0, e1, e2, e3, e4]
            · skip
              refine vv (.bool false) 48 rfl rfl (ex_bin (u := (.int .i64 p.good)) (r := (.int .i64 a)) rfl rfl rfl (eg3 _ _ _ _ _ _) (geq3 _ (decide_eq_false (by omega)))) ?_; refine st_end ?_; subst hQ; refine wp_cond_false rfl ?_; refine wp_skip ?_; refine wq fun Q hQ => ?_; refine vv (.agg #[(.int .i64 p.good), (.int .i64 p.gat), (.int .i64 p.bad), (.int .i64 t)]) 52 rfl rfl (ex_load (p := (Pz b1 0)) rfl rfl (ld_all k1 Try.underlying47 rfl inf47)) ?_
              obtain ⟨W4, hst, kn, K⟩ := put_all (D := #[(.int .i64 p.good), (.int .i64 p.gat), (.int .i64 p.bad), (.int .i64 t)]) k2 rfl inf47 (by kernel_rfl); refine st_sk rfl rfl (ex_store rfl rfl rfl hst) ?_; replace E := below_put E ge_b2 K; replace k1 := keepK K k1 (fun e => by first | exact ne_b1_b2 e | exact ne_b2_b1 e.symm); replace k2 := kn; clear kn K hst; refine st_end ?_; subst hQ; refine wp_ret ?_
              repeat (first | refine ret_out ?_ | refine ret_blk ?_)
              refine bodyPost_ret (results_cell_row Try.results70 _ _ b2 _ _ _ _ rfl k2 Try.underlying47 rfl inf47) rfl ⟨?_, E⟩
              show Ending.returned (.agg #[(.int .i64 p.good), (.int .i64 p.gat), (.int .i64 p.bad), (.int .i64 t)]) = _
              simp [lrnN, PL, e0, e1, e2, e3, e4]
end Go.Proofs.Ytgnkcmmpbohafaa
