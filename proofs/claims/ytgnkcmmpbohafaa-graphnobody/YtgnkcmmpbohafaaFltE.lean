/- Doubles of both signs: how they are ordered; sums with noughts and with what has no end. -/
import Derived.Test.YtgnkcmmpbohafaaFltD
namespace Go.Proofs.Ytgnkcmmpbohafaa
open Ieee
set_option linter.unusedVariables false
set_option linter.unusedSimpArgs false

/-- a word's rung, its sign, whether it is no number; where it stands among all -/
def rg (x : Nat) : Nat := x % 9223372036854775808
def ng (x : Nat) : Bool := x / 9223372036854775808 % 2 == 1
def isN (x : Nat) : Bool := decide (9218868437227405312 < rg x)
def key (x : Nat) : Int := if ng x then -(iv (rg x) : Int) else (iv (rg x) : Int)
theorem read_num (x : Nat) (hx : rg x < 9218868437227405312) : ∃ m k : Nat, double.read x = .number (ng x) m (-1074 + (k : Int)) ∧ m * 2 ^ k = iv (rg x) := by
  unfold Format.read ng
  rw [d_sign, d_binade, d_inf, d_least]
  dsimp only
  show ∃ m k : Nat, (if rg x < 4503599627370496 then _ else if rg x < 9218868437227405312 then _ else _) = _ ∧ _
  change ∃ m k : Nat, (if rg x < 4503599627370496 then Datum.number _ (rg x) (-1074) else if rg x < 9218868437227405312 then Datum.number _ (4503599627370496 + rg x % 4503599627370496) (-1074 + ((rg x / 4503599627370496 - 1 : Nat) : Int)) else _) = _ ∧ _
  by_cases h : rg x < 4503599627370496
  · rw [if_pos h]
    exact ⟨rg x, 0, rfl, by unfold iv; rw [if_pos h]; simp⟩
  · rw [if_neg h, if_pos hx]
    exact ⟨4503599627370496 + rg x % 4503599627370496, rg x / 4503599627370496 - 1, rfl, by unfold iv; rw [if_neg h]⟩
theorem read_end (x : Nat) (hx : rg x = 9218868437227405312) : double.read x = .infinity (ng x) := by
  unfold Format.read ng
  rw [d_sign, d_binade, d_inf, d_least]
  dsimp only
  have h : x % 9223372036854775808 = 9218868437227405312 := hx
  rw [h]
  rfl
theorem read_nan (x : Nat) (hx : isN x = true) : ∃ s f, double.read x = .nan s f := by
  have h := of_decide_eq_true hx
  unfold rg at h
  unfold Format.read
  rw [d_sign, d_binade, d_inf, d_least]
  dsimp only
  rw [if_neg (by omega), if_neg (by omega), if_neg (by omega)]
  exact ⟨_, _, rfl⟩
theorem signed_key (s : Bool) (m up : Nat) : signed s m up = if s then -((m * 2 ^ up : Nat) : Int) else ((m * 2 ^ up : Nat) : Int) := by
  cases s
  · rw [sgp]; rfl
  · rw [sgm]; rfl
theorem order_nan {x y : Nat} (h : isN x = true ∨ isN y = true) : double.order x y = none := by
  unfold Format.order
  rcases h with h | h
  · obtain ⟨s, f, e⟩ := read_nan x h
    rw [e]
    rfl
  · obtain ⟨s, f, e⟩ := read_nan y h
    rw [e]
    cases double.read x <;> rfl
theorem iv_end {x : Nat} (h : x < 9218868437227405312) : iv x < iv 9218868437227405312 := iv_lt h
theorem iv_big : 0 < iv 9218868437227405312 := Nat.lt_of_le_of_lt (Nat.zero_le _) (iv_end (x := 0) (by decide))
theorem order_key {x y : Nat} (hx : isN x = false) (hy : isN y = false) : double.order x y = some (compare (key x) (key y)) := by
  have hx' := of_decide_eq_false hx
  have hy' := of_decide_eq_false hy
  have cmp : ∀ {a b : Int}, (a < b → compare a b = .lt) ∧ (a = b → compare a b = .eq) ∧ (b < a → compare a b = .gt) := fun {a b} => ⟨Int.compare_eq_lt.2, Int.compare_eq_eq.2, Int.compare_eq_gt.2⟩
  have big := iv_big
  unfold Format.order key
  by_cases h1 : rg x = 9218868437227405312
  · rw [read_end x h1, h1]
    by_cases h2 : rg y = 9218868437227405312
    · rw [read_end y h2, h2]
      generalize iv 9218868437227405312 = I at *
      cases ng x <;> cases ng y <;> simp only [Datum.order, Bool.toNat_true, Bool.toNat_false, if_true, if_false, Bool.false_eq_true]
      · rw [cmp.2.1 rfl]; rfl
      · rw [cmp.2.2 (by omega)]; rfl
      · rw [cmp.1 (by omega)]; rfl
      · rw [cmp.2.1 rfl]; rfl
    · obtain ⟨n, j, e2, v2⟩ := read_num y (by omega)
      have hl := iv_end (show rg y < 9218868437227405312 by omega)
      rw [e2]
      generalize iv 9218868437227405312 = I at *
      cases ng x <;> cases ng y <;> simp only [Datum.order, if_true, if_false, Bool.false_eq_true]
      · rw [cmp.2.2 (by omega)]
      · rw [cmp.2.2 (by omega)]
      · rw [cmp.1 (by omega)]
      · rw [cmp.1 (by omega)]
  · obtain ⟨m, i, e1, v1⟩ := read_num x (by omega)
    rw [e1]
    by_cases h2 : rg y = 9218868437227405312
    · rw [read_end y h2, h2]
      have hl := iv_end (show rg x < 9218868437227405312 by omega)
      generalize iv 9218868437227405312 = I at *
      cases ng x <;> cases ng y <;> simp only [Datum.order, if_true, if_false, Bool.false_eq_true]
      · rw [cmp.1 (by omega)]
      · rw [cmp.2.2 (by omega)]
      · rw [cmp.1 (by omega)]
      · rw [cmp.2.2 (by omega)]
    · obtain ⟨n, j, e2, v2⟩ := read_num y (by omega)
      rw [e2]
      unfold Datum.order
      dsimp only
      rw [min_at, signed_key, signed_key]
      generalize hb : min i j = b
      have hi := base_at m i b (by omega)
      have hj := base_at n j b (by omega)
      generalize m * 2 ^ (-1074 + (i : Int) - (-1074 + (b : Int))).toNat = M at *
      generalize n * 2 ^ (-1074 + (j : Int) - (-1074 + (b : Int))).toNat = N at *
      rw [v1] at hi
      rw [v2] at hj
      have hB := Nat.two_pow_pos b
      have t1 : ∀ {a c : Nat}, a < c → a * 2 ^ b < c * 2 ^ b := fun h => Nat.mul_lt_mul_of_pos_right h hB
      have z : ∀ {a : Nat}, 0 < a → 0 < a * 2 ^ b := fun h => Nat.mul_pos h hB
      have zz : ∀ {a : Nat}, a = 0 → a * 2 ^ b = 0 := fun h => by rw [h, Nat.zero_mul]
      rw [← hi, ← hj]
      congr 1
      have tri := Nat.lt_trichotomy M N
      have pM := Nat.eq_zero_or_pos M
      have pN := Nat.eq_zero_or_pos N
      cases ng x <;> cases ng y <;> simp only [if_true, if_false, Bool.false_eq_true]
      · rcases tri with h | h | h
        · have := t1 h
          rw [cmp.1 (by omega), cmp.1 (by omega)]
        · rw [h, cmp.2.1 rfl, cmp.2.1 rfl]
        · have := t1 h
          rw [cmp.2.2 (by omega), cmp.2.2 (by omega)]
      · rcases pM with h | h
        · rcases pN with h' | h'
          · have := zz h; have := zz h'
            rw [cmp.2.1 (by omega), cmp.2.1 (by omega)]
          · have := zz h; have := z h'
            rw [cmp.2.2 (by omega), cmp.2.2 (by omega)]
        · have := z h
          rw [cmp.2.2 (by omega), cmp.2.2 (by omega)]
      · rcases pM with h | h
        · rcases pN with h' | h'
          · have := zz h; have := zz h'
            rw [cmp.2.1 (by omega), cmp.2.1 (by omega)]
          · have := zz h; have := z h'
            rw [cmp.1 (by omega), cmp.1 (by omega)]
        · have := z h
          rw [cmp.1 (by omega), cmp.1 (by omega)]
      · rcases tri with h | h | h
        · have := t1 h
          rw [cmp.2.2 (by omega), cmp.2.2 (by omega)]
        · rw [h, cmp.2.1 rfl, cmp.2.1 rfl]
        · have := t1 h
          rw [cmp.1 (by omega), cmp.1 (by omega)]
/-! comparisons, as the operations ask them -/
theorem cmp_lt {x y : Nat} (hx : isN x = false) (hy : isN y = false) : (double.order x y == some .lt) = decide (key x < key y) := by
  rw [order_key hx hy]
  rcases Int.lt_trichotomy (key x) (key y) with h | h | h
  · rw [Int.compare_eq_lt.2 h, decide_eq_true h]; rfl
  · rw [Int.compare_eq_eq.2 h, decide_eq_false (by omega)]; rfl
  · rw [Int.compare_eq_gt.2 h, decide_eq_false (by omega)]; rfl
theorem cmp_gt {x y : Nat} (hx : isN x = false) (hy : isN y = false) : (double.order x y == some .gt) = decide (key y < key x) := by
  rw [order_key hx hy]
  rcases Int.lt_trichotomy (key x) (key y) with h | h | h
  · rw [Int.compare_eq_lt.2 h, decide_eq_false (by omega)]; rfl
  · rw [Int.compare_eq_eq.2 h, decide_eq_false (by omega)]; rfl
  · rw [Int.compare_eq_gt.2 h, decide_eq_true h]; rfl
theorem cmp_eq {x y : Nat} (hx : isN x = false) (hy : isN y = false) : (double.order x y == some .eq) = decide (key x = key y) := by
  rw [order_key hx hy]
  rcases Int.lt_trichotomy (key x) (key y) with h | h | h
  · rw [Int.compare_eq_lt.2 h, decide_eq_false (by omega)]; rfl
  · rw [Int.compare_eq_eq.2 h, decide_eq_true h]; rfl
  · rw [Int.compare_eq_gt.2 h, decide_eq_false (by omega)]; rfl
/-! words that are not below nought -/
theorem rg_pos {x : Nat} (h : x ≤ 9218868437227405312) : rg x = x := Nat.mod_eq_of_lt (by omega)
theorem ng_pos {x : Nat} (h : x ≤ 9218868437227405312) : ng x = false := by
  unfold ng
  rw [show x / 9223372036854775808 = 0 from Nat.div_eq_of_lt (by omega)]
  rfl
theorem isN_pos {x : Nat} (h : x ≤ 9218868437227405312) : isN x = false := decide_eq_false (by rw [rg_pos h]; omega)
theorem key_pos {x : Nat} (h : x ≤ 9218868437227405312) : key x = (iv x : Int) := by
  unfold key
  rw [ng_pos h, rg_pos h]
  rfl
theorem iv_zero : iv 0 = 0 := by unfold iv; rfl
theorem key_zero : key 0 = 0 := by rw [key_pos (by decide), iv_zero]; rfl
/-- above nought: a plain rung -/
theorem above_zero {x : Nat} (hx : x < 18446744073709551616) (hn : isN x = false) (h : 0 < key x) : 0 < x ∧ x ≤ 9218868437227405312 := by
  have hn := of_decide_eq_false hn
  unfold key at h
  cases hs : ng x with
  | true => rw [hs] at h; simp only [if_true] at h; omega
  | false =>
    rw [hs] at h
    simp only [Bool.false_eq_true, if_false] at h
    unfold ng at hs
    unfold rg at hn h
    have h2 : x / 9223372036854775808 % 2 = 0 := by
      have : ¬ x / 9223372036854775808 % 2 = 1 := by simpa using hs
      omega
    have h3 : x < 9223372036854775808 := by omega
    rw [Nat.mod_eq_of_lt h3] at h hn
    refine ⟨?_, by omega⟩
    by_cases q : x = 0
    · subst q; rw [iv_zero] at h; omega
    · omega
/-- a nought of either sign, or above -/
theorem not_below {x : Nat} (hx : x < 18446744073709551616) (hn : isN x = false) (h : 0 ≤ key x) : x = 9223372036854775808 ∨ x ≤ 9218868437227405312 := by
  have hn := of_decide_eq_false hn
  by_cases h0 : x < 9223372036854775808
  · right
    unfold rg at hn
    rw [Nat.mod_eq_of_lt h0] at hn
    omega
  · left
    have hs : ng x = true := by
      unfold ng
      rw [show x / 9223372036854775808 = 1 by omega]
      rfl
    unfold key at h
    rw [hs] at h
    simp only [if_true] at h
    have h2 : iv (rg x) = 0 := by omega
    have h3 : rg x = 0 := iv_inj (h2.trans iv_zero.symm)
    unfold rg at h3
    omega
/-! sums with a nought below, and with what has no end -/
theorem add_end {x y : Nat} (hx : x ≤ 9218868437227405312) (hy : y ≤ 9218868437227405312) (h : x = 9218868437227405312 ∨ y = 9218868437227405312) : double.add x y = some 9218868437227405312 := by
  unfold Format.add
  have hw : double.write (.infinity false) = 9218868437227405312 := by decide +kernel
  by_cases h1 : x = 9218868437227405312
  · subst h1
    rw [read_inf]
    by_cases h2 : y = 9218868437227405312
    · subst h2
      rw [read_inf]
      show some (double.write (.infinity false)) = _
      rw [hw]
    · obtain ⟨n, j, e2, v2⟩ := read_fin y (by omega)
      rw [e2]
      show some (double.write (.infinity false)) = _
      rw [hw]
  · have h2 : y = 9218868437227405312 := by omega
    subst h2
    obtain ⟨m, i, e1, v1⟩ := read_fin x (by omega)
    rw [e1, read_inf]
    show some (double.write (.infinity false)) = _
    rw [hw]
/-- adding a nought below changes nothing -/
theorem add_nought {x : Nat} (hx : x ≤ 9218868437227405312) : double.add x 9223372036854775808 = some x := by
  have hr : double.read 9223372036854775808 = .number true 0 (-1074) := by decide +kernel
  unfold Format.add
  by_cases h1 : x = 9218868437227405312
  · subst h1
    rw [read_inf, hr]
    decide +kernel
  · obtain ⟨m, i, e1, v1⟩ := read_fin x (by omega)
    rw [e1, hr]
    unfold Datum.sum
    dsimp only
    rw [show min (-1074 + (i : Int)) (-1074) = -1074 by omega, sgp, sgm]
    have hs : (if ((m * 2 ^ (-1074 + (i : Int) - -1074).toNat : Nat) : Int) + -((0 * 2 ^ ((-1074 : Int) - -1074).toNat : Nat) : Int) = 0 then false && true else decide (((m * 2 ^ (-1074 + (i : Int) - -1074).toNat : Nat) : Int) + -((0 * 2 ^ ((-1074 : Int) - -1074).toNat : Nat) : Int) < 0)) = false := by
      split
      · rfl
      · rw [Nat.zero_mul]
        exact decide_eq_false (by omega)
    rw [hs, Nat.zero_mul, show (-1074 + (i : Int) - -1074).toNat = i by omega, v1, show ((iv x : Int) + -((0 : Nat) : Int)).natAbs = iv x by omega]
    have h2 := near_up (iv x) 0
    rw [Nat.pow_zero, Nat.mul_one] at h2
    have := h2.eq (IsR.exact hx) (by decide) (by decide) rfl
    exact congrArg some this
end Go.Proofs.Ytgnkcmmpbohafaa
