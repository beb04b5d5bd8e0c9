/- The contract of the amount statements' lives over this seat's translation. -/
import Derived.Test.YtclimopeejkdbabAmtFee
import Derived.Test.YtclimopeejkdbabAmtShare
namespace Go.Proofs.Ytclimopeejkdbab
open Go.RowKit
set_option linter.unusedVariables false

theorem l_fee : feeN 1000 100 1000000 = 1100 ∧ feeE 1000 100 1000000 = 0 := by simp [feeN, feeE, rightB, addN, addE]
theorem l_in : inN 1000 100 1000000 = 1001100 ∧ inE 1000 100 1000000 = 0 := by
  unfold inN inE
  rw [l_fee.1, l_fee.2]
  simp [addN, addE]
theorem l_add : addN 4611686018427387904 4611686018427387904 = 0 ∧ addE 4611686018427387904 4611686018427387904 = 20 := by simp [addN, addE]
theorem l_share : shareN 10 3 0 = 4 := by simp [shareN]

set_option maxHeartbeats 1000000 in
theorem lives_any (w : World) : Calls Try.prog 15 #[] w fun e w' => e = .returned (.bool true) ∧ Below w.heap.size w w' := by
  have H1 := hide (fun w => fee_any 1000 100 1000000 w (by omega) (by omega))
  have H2 := hide (fun w => in_any 1000 100 1000000 w (by omega) (by omega) (by omega))
  have H3 := hide (fun w => add_any 4611686018427387904 4611686018427387904 w (by omega) (by omega) (by omega) (by omega))
  have H4 := hide (fun w => share_any 10 3 0 w (by omega) (by omega) (by omega) (by omega) (by omega) (by omega))
  rw [l_fee.1, l_fee.2] at H1
  rw [l_in.1, l_in.2] at H2
  rw [l_add.1, l_add.2] at H3
  rw [l_share] at H4
  go_enter Try.func15, Try.ntmps15
  go_wp2_with fail
  refine (H1.out _).mono ?_
  rintro e w1 ⟨rfl, hb⟩
  have z1 : w.heap.size < w1.heap.size := by have := hb.size; simp at this; omega
  have B1 : Below w.heap.size w w1 := ((Below.refl _ _).alloc (Nat.le_refl _) _).trans (hb.mono (by simp))
  have c0 : w1.cell? ⟨w.heap.size, 0, none⟩ = some (.int .i64 1000) := (hb.cell (by simp)).trans (by simp)
  have c1 : w1.cell? ⟨w.heap.size, 1, none⟩ = some (.int .i64 100) := (hb.cell (by simp)).trans (by simp)
  clear hb
  have HB1 := hide B1
  clear B1
  go_wp2_with fail
  refine (H2.out _).mono ?_
  rintro e w2 ⟨rfl, hb⟩
  have HB2 := hide (HB1.out.trans (hb.mono (by omega)))
  have z2 : w.heap.size < w2.heap.size := by have := hb.size; omega
  clear hb z1
  go_wp2_with fail
  refine (H3.out _).mono ?_
  rintro e w3 ⟨rfl, hb⟩
  have HB3 := hide (HB2.out.trans (hb.mono (by omega)))
  have z3 : w.heap.size < w3.heap.size := by have := hb.size; omega
  clear hb z2
  go_wp2_with fail
  refine (H4.out _).mono ?_
  rintro e w4 ⟨rfl, hb⟩
  have HB4 := hide (HB3.out.trans (hb.mono (by omega)))
  clear hb z3
  go_wp2
  go_ret
  exact ⟨rfl, HB4.out⟩
end Go.Proofs.Ytclimopeejkdbab
