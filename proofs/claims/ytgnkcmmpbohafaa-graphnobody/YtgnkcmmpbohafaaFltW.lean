/- Doubles: halves, and the weights of ages. -/
import Derived.Test.YtgnkcmmpbohafaaFltE
namespace Go.Proofs.Ytgnkcmmpbohafaa
open Ieee
set_option linter.unusedVariables false

/-- words of 1, 2, 128 -/
def F1 : Nat := 4607182418800017408
def F2 : Nat := 4611686018427387904
def F128 : Nat := 4638707616191610880
/-- one, halved q times -/
def hf (q : Nat) : Nat := (1023 - q) * 4503599627370496
theorem half_all : (List.range 1022).all (fun q => double.div (hf q) F2 == some (hf (q + 1))) = true := by decide +kernel
theorem half_step (q : Nat) (h : q < 1022) : double.div (hf q) F2 = some (hf (q + 1)) := by
  have := List.all_eq_true.1 half_all q (List.mem_range.2 h)
  simpa using this
/-- the weight of an age with quotient q and rest r -/
def wtO (q r : Nat) : Option Nat := (double.div (FloatKind.f64.nearest (r : Int)) F128).bind fun a => (double.sub F1 a).bind fun b => double.mul (hf q) b
def wtW (q r : Nat) : Nat := (wtO q r).getD 0
theorem wt_all : (List.range 65).all (fun q => (List.range 64).all fun r => wtO q r == some (wtW q r) && decide (wtW q r ≤ F1) && decide (wtW q (r + 1) ≤ wtW q r) && decide (wtW (q + 1) 0 ≤ wtW q r)) = true := by decide +kernel
theorem wt_at (q r : Nat) (hq : q ≤ 64) (hr : r < 64) : wtO q r = some (wtW q r) ∧ wtW q r ≤ F1 ∧ wtW q (r + 1) ≤ wtW q r ∧ wtW (q + 1) 0 ≤ wtW q r := by
  have h1 := List.all_eq_true.1 wt_all q (List.mem_range.2 (by omega))
  have h2 := List.all_eq_true.1 h1 r (List.mem_range.2 hr)
  simp only [Bool.and_eq_true, beq_iff_eq, decide_eq_true_eq] at h2
  exact ⟨h2.1.1.1, h2.1.1.2, h2.1.2, h2.2⟩
/-- the weight of an age, as a word -/
def wt (a : Int) : Nat := if a < 0 then F1 else if 64 < a / 64 then 0 else wtW (a / 64).toNat (a % 64).toNat
theorem wt_le (a : Int) : wt a ≤ F1 := by
  unfold wt
  split
  · exact Nat.le_refl _
  · split
    · exact Nat.zero_le _
    · exact (wt_at _ _ (by omega) (by omega)).2.1
/-- one tick later it is not more -/
theorem wt_step (a : Int) : wt (a + 1) ≤ wt a := by
  by_cases h0 : a < 0
  · have : wt a = F1 := by unfold wt; rw [if_pos h0]
    rw [this]
    exact wt_le _
  · by_cases h1 : 64 < (a + 1) / 64
    · have : wt (a + 1) = 0 := by unfold wt; rw [if_neg (by omega), if_pos h1]
      rw [this]
      exact Nat.zero_le _
    · have e1 : wt (a + 1) = wtW ((a + 1) / 64).toNat ((a + 1) % 64).toNat := by unfold wt; rw [if_neg (by omega), if_neg h1]
      have e2 : wt a = wtW (a / 64).toNat (a % 64).toNat := by unfold wt; rw [if_neg h0, if_neg (by omega)]
      have s := wt_at (a / 64).toNat (a % 64).toNat (by omega) (by omega)
      rw [e1, e2]
      by_cases h2 : (a + 1) % 64 = 0
      · rw [h2, show ((a + 1) / 64).toNat = (a / 64).toNat + 1 by omega]
        exact s.2.2.2
      · rw [show ((a + 1) % 64).toNat = (a % 64).toNat + 1 by omega, show ((a + 1) / 64).toNat = (a / 64).toNat by omega]
        exact s.2.2.1
theorem wt_mono (a : Int) (d : Nat) : wt (a + d) ≤ wt a := by
  induction d with
  | zero => simp
  | succ d ih =>
    have := wt_step (a + d)
    rw [show a + ((d + 1 : Nat) : Int) = a + d + 1 by omega]
    omega
end Go.Proofs.Ytgnkcmmpbohafaa
