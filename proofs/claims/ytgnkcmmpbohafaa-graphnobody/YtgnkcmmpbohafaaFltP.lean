/- Doubles: what comparisons answer, case by case. -/
import Derived.Test.YtgnkcmmpbohafaaSNum
namespace Go.Proofs.Ytgnkcmmpbohafaa
open Ieee
set_option linter.unusedVariables false
set_option linter.unusedSimpArgs false

section
variable {x y : Nat}
theorem no_eq (h : isN x = true ∨ isN y = true) : (double.order x y == some .eq) = false := by rw [order_nan h]; rfl
theorem no_ne (h : isN x = true ∨ isN y = true) : (double.order x y != some .eq) = true := by rw [order_nan h]; rfl
theorem no_lt (h : isN x = true ∨ isN y = true) : (double.order x y == some .lt) = false := by rw [order_nan h]; rfl
theorem no_gt (h : isN x = true ∨ isN y = true) : (double.order x y == some .gt) = false := by rw [order_nan h]; rfl
theorem no_le (h : isN x = true ∨ isN y = true) : (double.order x y == some .lt || double.order x y == some .eq) = false := by rw [order_nan h]; rfl
theorem no_ge (h : isN x = true ∨ isN y = true) : (double.order x y == some .gt || double.order x y == some .eq) = false := by rw [order_nan h]; rfl
end
theorem is_lt {x y : Nat} (hx : isN x = false) (hy : isN y = false) {c : Bool} (h : decide (key x < key y) = c) : (double.order x y == some .lt) = c := (cmp_lt hx hy).trans h
theorem is_gt {x y : Nat} (hx : isN x = false) (hy : isN y = false) {c : Bool} (h : decide (key y < key x) = c) : (double.order x y == some .gt) = c := (cmp_gt hx hy).trans h
theorem is_eq {x y : Nat} (hx : isN x = false) (hy : isN y = false) {c : Bool} (h : decide (key x = key y) = c) : (double.order x y == some .eq) = c := (cmp_eq hx hy).trans h
theorem is_ne {x y : Nat} (hx : isN x = false) (hy : isN y = false) {c : Bool} (h : decide (¬ key x = key y) = c) : (double.order x y != some .eq) = c := by
  have e := cmp_eq hx hy
  show (!(double.order x y == some .eq)) = c
  rw [e, ← h]
  by_cases q : key x = key y <;> simp [q]
theorem is_le {x y : Nat} (hx : isN x = false) (hy : isN y = false) {c : Bool} (h : decide (key x ≤ key y) = c) : (double.order x y == some .lt || double.order x y == some .eq) = c := by
  rw [cmp_lt hx hy, cmp_eq hx hy, ← h, ← Bool.decide_or]
  exact decide_eq_decide.2 (by omega)
theorem is_ge {x y : Nat} (hx : isN x = false) (hy : isN y = false) {c : Bool} (h : decide (key y ≤ key x) = c) : (double.order x y == some .gt || double.order x y == some .eq) = c := by
  rw [cmp_gt hx hy, cmp_eq hx hy, ← h, ← Bool.decide_or]
  exact decide_eq_decide.2 (by omega)
theorem N0 : isN 0 = false := by decide
theorem N1 : isN F1 = false := by decide
theorem Nmax : isN 9218868437227405311 = false := by decide
/-- beyond the greatest number there is but what has no end -/
theorem is_inf {x : Nat} (hx : x < 18446744073709551616) : (double.order x 9218868437227405311 == some .gt) = (x == 9218868437227405312) := by
  cases hn : isN x with
  | true =>
    rw [no_gt (.inl hn)]
    have := of_decide_eq_true hn
    unfold rg at this
    have : x ≠ 9218868437227405312 := fun e => by subst e; omega
    simp [this]
  | false =>
    rw [cmp_gt hn Nmax, key_pos (x := 9218868437227405311) (by decide)]
    by_cases q : x = 9218868437227405312
    · subst q
      rw [key_pos (by decide), decide_eq_true (by have := iv_lt (show 9218868437227405311 < 9218868437227405312 by decide); omega)]
      rfl
    · have hb : (x == 9218868437227405312) = false := by simpa using q
      rw [hb]
      refine decide_eq_false fun h => ?_
      obtain ⟨a1, a2⟩ := above_zero hx hn (by omega)
      rw [key_pos a2] at h
      have := iv_le (show x ≤ 9218868437227405311 by omega)
      omega
theorem bind3 {d : Option Nat} {f g : Nat → Option Nat} {z : Nat} (h : (d.bind fun a => (f a).bind fun b => g b) = some z) : ∃ a b, d = some a ∧ f a = some b ∧ g b = some z := by
  cases d with
  | none => cases h
  | some a =>
    rw [Option.bind_some] at h
    cases e2 : f a with
    | none => rw [e2] at h; cases h
    | some b => rw [e2, Option.bind_some] at h; exact ⟨a, b, rfl, e2, h⟩
theorem wt_parts (q r : Nat) (hq : q ≤ 64) (hr : r < 64) : ∃ a b, double.div (FloatKind.f64.nearest (r : Int)) F128 = some a ∧ double.sub F1 a = some b ∧ double.mul (hf q) b = some (wtW q r) := by
  have h := (wt_at q r hq hr).1
  unfold wtO at h
  exact bind3 h
end Go.Proofs.Ytgnkcmmpbohafaa
