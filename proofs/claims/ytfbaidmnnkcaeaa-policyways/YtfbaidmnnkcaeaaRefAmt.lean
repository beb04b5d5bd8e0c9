/- Contracts of the document's Add, Right, Part, Fee and In over this seat's translation. -/
import Derived.Test.YtfbaidmnnkcaeaaAmtFee
namespace Go.Proofs.Ytfbaidmnnkcaeaa
open Go.RowKit
set_option linter.unusedVariables false

set_option maxHeartbeats 400000 in
theorem radd_any (a b : Int) (w : World) (a1 : -9223372036854775808 ≤ a) (a2 : a ≤ 9223372036854775807) (b1 : -9223372036854775808 ≤ b) (b2 : b ≤ 9223372036854775807) :
    Calls Try.prog 49 #[.int .i64 a, .int .i64 b] w fun e w' => e = .returned (.tuple #[.int .i64 (addN a b), .int .i64 (addE a b)]) ∧ w' = w := by
  by_cases hn : a < 0
  · have e1 : addN a b = 0 := by unfold addN; rw [if_pos (by omega)]
    have e2 : addE a b = 1 := by unfold addE; rw [if_pos (by omega)]
    rw [e1, e2]
    clear e1 e2
    go_enter Try.func49, Try.ntmps49
    go_wp2
    go_ret2
    exact ⟨rfl, rfl⟩
  · by_cases hm : b < 0
    · have e1 : addN a b = 0 := by unfold addN; rw [if_pos (by omega)]
      have e2 : addE a b = 1 := by unfold addE; rw [if_pos (by omega)]
      rw [e1, e2]
      clear e1 e2
      go_enter Try.func49, Try.ntmps49
      go_wp2
      go_ret2
      exact ⟨rfl, rfl⟩
    · by_cases ho : 9223372036854775807 - b < a
      · have e1 : addN a b = 0 := by unfold addN; rw [if_neg (by omega), if_pos ho]
        have e2 : addE a b = 20 := by unfold addE; rw [if_neg (by omega), if_pos ho]
        rw [e1, e2]
        clear e1 e2
        go_enter Try.func49, Try.ntmps49
        go_wp2
        go_ret2
        exact ⟨rfl, rfl⟩
      · have e1 : addN a b = a + b := by unfold addN; rw [if_neg (by omega), if_neg ho]
        have e2 : addE a b = 0 := by unfold addE; rw [if_neg (by omega), if_neg ho]
        rw [e1, e2]
        clear e1 e2
        go_enter Try.func49, Try.ntmps49
        go_wp2
        go_ret2
        exact ⟨rfl, rfl⟩

set_option maxHeartbeats 400000 in
theorem right_any (b r : Int) (w : World) :
    Calls Try.prog 24 #[.agg #[.int .i64 b, .int .i64 r]] w fun e w' => e = .returned (.bool (rightB b r)) ∧ Below w.heap.size w w' := by
  have hB : ∀ o, Below w.heap.size w (w.alloc o) := fun o => (Below.refl _ _).alloc (Nat.le_refl _) o
  have HB := hide hB
  clear hB
  by_cases h0 : b < 0
  · have e1 : rightB b r = false := decide_eq_false (by omega)
    rw [e1]
    clear e1
    go_enter Try.func24, Try.ntmps24
    go_wp2
    go_ret
    exact ⟨rfl, HB.out _⟩
  · by_cases h1 : r < 0
    · have e1 : rightB b r = false := decide_eq_false (by omega)
      rw [e1]
      clear e1
      go_enter Try.func24, Try.ntmps24
      go_wp2
      go_ret
      exact ⟨rfl, HB.out _⟩
    · by_cases h2 : 1000000 < r
      · have e1 : rightB b r = false := decide_eq_false (by omega)
        rw [e1]
        clear e1
        go_enter Try.func24, Try.ntmps24
        go_wp2
        go_ret
        exact ⟨by first | (simp; done) | (simp; omega), HB.out _⟩
      · have e1 : rightB b r = true := decide_eq_true (by omega)
        rw [e1]
        clear e1
        go_enter Try.func24, Try.ntmps24
        go_wp2
        go_ret
        exact ⟨by first | (simp; done) | (simp; omega), HB.out _⟩

theorem part_eq (x r : Int) (h1 : 0 ≤ x) (h2 : x ≤ 9223372036854775807) (h3 : 0 ≤ r) (h4 : r ≤ 1000000) :
    ∃ A B : Int, x / 1000000 * r = A ∧ x % 1000000 * r = B ∧ 0 ≤ A ∧ 0 ≤ B ∧ B ≤ 1000000000000 ∧ A ≤ 9223372036854775807 ∧ A + B / 1000000 = x * r / 1000000 ∧ A + B / 1000000 ≤ x := by
  have e : x * r = 1000000 * (x / 1000000 * r) + x % 1000000 * r := by
    rw [← Int.mul_assoc, ← Int.add_mul, Int.mul_ediv_add_emod]
  have p := part_le x r h1 h3 h4
  have a0 : 0 ≤ x / 1000000 * r := Int.mul_nonneg (by omega) h3
  have b0 : 0 ≤ x % 1000000 * r := Int.mul_nonneg (by omega) h3
  have b1 : x % 1000000 * r ≤ 1000000 * 1000000 := Int.mul_le_mul (by omega) h4 h3 (by omega)
  refine ⟨_, _, rfl, rfl, a0, b0, by omega, ?_, ?_, ?_⟩
  all_goals
    rw [e] at p
    generalize x / 1000000 * r = A at *
    generalize x % 1000000 * r = B at *
    omega

set_option maxHeartbeats 400000 in
theorem part_any (x r : Int) (w : World) (h1 : 0 ≤ x) (h2 : x ≤ 9223372036854775807) (h3 : 0 ≤ r) (h4 : r ≤ 1000000) :
    Calls Try.prog 52 #[.int .i64 x, .int .i64 r] w fun e w' => e = .returned (.int .i64 (x * r / 1000000)) ∧ w' = w := by
  obtain ⟨A, B, r1, r2, a0, b0, b1, a1, hs, hl⟩ := part_eq x r h1 h2 h3 h4
  rw [← hs]
  clear hs
  go_enter Try.func52, Try.ntmps52
  go_wp2
  go_ret
  exact ⟨rfl, rfl⟩

theorem addN_comm (a b : Int) : addN a b = addN b a ∧ addE a b = addE b a := by
  unfold addN addE
  refine ⟨?_, ?_⟩
  all_goals
    repeat' split
    all_goals omega

set_option maxHeartbeats 1000000 in
theorem rfee_any (b r x : Int) (w : World) (b2 : b ≤ 9223372036854775807) (x2 : x ≤ 9223372036854775807) :
    Calls Try.prog 48 #[.agg #[.int .i64 b, .int .i64 r], .int .i64 x] w fun e w' => e = .returned (.tuple #[.int .i64 (feeN b r x), .int .i64 (feeE b r x)]) ∧ Below w.heap.size w w' := by
  have HG := hide (fun w => right_any b r w)
  by_cases hR : rightB b r = true
  · have hr : 0 ≤ b ∧ 0 ≤ r ∧ r ≤ 1000000 := of_decide_eq_true hR
    rw [hR] at HG
    by_cases hx : x < 0
    · have e1 : feeN b r x = 0 := if_neg (by omega)
      have e2 : feeE b r x = 1 := if_neg (by omega)
      rw [e1, e2]
      clear e1 e2 hR
      go_enter Try.func48, Try.ntmps48
      go_wp2_with fail
      refine (HG.out _).mono ?_
      rintro e w1 ⟨rfl, hb⟩
      have HB := hide (((Below.refl w.heap.size w).alloc (Nat.le_refl _) _).trans (hb.mono (by simp)))
      clear hb
      go_wp2
      go_ret2
      exact ⟨rfl, HB.out⟩
    · have hx0 : 0 ≤ x := by omega
      have e1 : feeN b r x = addN b (x * r / 1000000) := if_pos ⟨hR, hx0⟩
      have e2 : feeE b r x = addE b (x * r / 1000000) := if_pos ⟨hR, hx0⟩
      have hp := part_le x r hx0 hr.2.1 hr.2.2
      have HC := hide (fun w => part_any x r w hx0 x2 hr.2.1 hr.2.2)
      rw [e1, e2]
      clear e1 e2
      generalize x * r / 1000000 = X at hp HC ⊢
      have HA := hide (fun w => radd_any b X w (by omega) b2 (by omega) (by omega))
      clear hR
      go_enter Try.func48, Try.ntmps48
      go_wp2_with fail
      refine (HG.out _).mono ?_
      rintro e w1 ⟨rfl, hb⟩
      have hz : w.heap.size < w1.heap.size := by have := hb.size; simp at this; omega
      have HB := hide (((Below.refl w.heap.size w).alloc (Nat.le_refl _) _).trans (hb.mono (by simp)))
      have q0 : w1.cell? ⟨w.heap.size, 0, none⟩ = some (.int .i64 b) := (hb.cell (by simp)).trans (by simp)
      have q1 : w1.cell? ⟨w.heap.size, 1, none⟩ = some (.int .i64 r) := (hb.cell (by simp)).trans (by simp)
      clear hb
      go_wp2
      go_region_with (first
        | (go_at_call 52; refine (HC.out _).mono ?_; rintro e w3 ⟨rfl, rfl⟩)
        | (go_at_call 49; refine (HA.out _).mono ?_; rintro e w4 ⟨rfl, rfl⟩))
      all_goals
        go_wp2
        go_ret2
        exact ⟨rfl, HB.out.drew⟩
  · have hR' : rightB b r = false := by simpa using hR
    have e1 : feeN b r x = 0 := if_neg (fun h => hR h.1)
    have e2 : feeE b r x = 1 := if_neg (fun h => hR h.1)
    rw [e1, e2]
    rw [hR'] at HG
    clear e1 e2 hR hR'
    go_enter Try.func48, Try.ntmps48
    go_wp2_with fail
    refine (HG.out _).mono ?_
    rintro e w1 ⟨rfl, hb⟩
    have HB := hide (((Below.refl w.heap.size w).alloc (Nat.le_refl _) _).trans (hb.mono (by simp)))
    clear hb
    go_wp2
    go_ret2
    exact ⟨rfl, HB.out⟩

set_option maxHeartbeats 1000000 in
theorem rin_any (b r x : Int) (w : World) (b2 : b ≤ 9223372036854775807) (x1 : -9223372036854775808 ≤ x) (x2 : x ≤ 9223372036854775807) :
    Calls Try.prog 37 #[.agg #[.int .i64 b, .int .i64 r], .int .i64 x] w fun e w' => e = .returned (.tuple #[.int .i64 (inN b r x), .int .i64 (inE b r x)]) ∧ Below w.heap.size w w' := by
  have HC := hide (fun w => rfee_any b r x w b2 x2)
  have hl := feeN_le b r x b2 x2
  by_cases h0 : feeE b r x = 0
  · have e1 : inN b r x = addN (feeN b r x) x := (if_pos h0).trans (addN_comm _ _).1
    have e2 : inE b r x = addE (feeN b r x) x := (if_pos h0).trans (addN_comm _ _).2
    rw [e1, e2]
    rw [h0] at HC
    clear e1 e2 h0
    generalize feeN b r x = N at *
    have HB := hide (fun w => radd_any N x w (by omega) hl.2 x1 x2)
    go_enter Try.func37, Try.ntmps37
    go_wp2_with fail
    refine (HC.out _).mono ?_
    rintro e w1 ⟨rfl, hb⟩
    have HB1 := hide (((Below.refl w.heap.size w).alloc (Nat.le_refl _) _).trans (hb.mono (by simp)))
    clear hb
    go_wp2_with fail
    refine (HB.out _).mono ?_
    rintro e w2 ⟨rfl, rfl⟩
    go_wp2
    go_ret2
    exact ⟨rfl, HB1.out⟩
  · have e1 : inN b r x = 0 := if_neg h0
    have e2 : inE b r x = feeE b r x := if_neg h0
    rw [e1, e2]
    clear e1 e2
    generalize feeN b r x = N at *
    generalize feeE b r x = E at *
    have g0 : (E != 0) = true := by simp; exact h0
    go_enter Try.func37, Try.ntmps37
    go_wp2_with fail
    refine (HC.out _).mono ?_
    rintro e w1 ⟨rfl, hb⟩
    have HB1 := hide (((Below.refl w.heap.size w).alloc (Nat.le_refl _) _).trans (hb.mono (by simp)))
    clear hb
    go_wp2
    go_ret2
    exact ⟨rfl, HB1.out⟩
end Go.Proofs.Ytfbaidmnnkcaeaa
