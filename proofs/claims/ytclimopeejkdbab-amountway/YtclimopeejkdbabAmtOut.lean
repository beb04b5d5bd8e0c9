/- The contract of amount.Out over this seat's translation, and the plain arithmetic of what goes out for what comes in. -/
import Derived.Test.YtclimopeejkdbabAmtFee
namespace Go.Proofs.Ytclimopeejkdbab
open Go.RowKit
set_option linter.unusedVariables false

def outN (b r x : Int) : Int := if rightB b r = true ∧ 0 ≤ x then (if x < b then 0 else ((x - b + 1) * 1000000 - 1) / (1000000 + r)) else 0
def outE (b r x : Int) : Int := if rightB b r = true ∧ 0 ≤ x then (if x < b then 20 else 0) else 1

/-- m and its part are at most y just where m is at most the quotient -/
theorem out_iff (m y r : Int) (hr : 0 ≤ r) : m + m * r / 1000000 ≤ y ↔ m ≤ ((y + 1) * 1000000 - 1) / (1000000 + r) := by
  rw [Int.le_ediv_iff_mul_le (by omega), Int.mul_add]
  generalize m * r = X
  omega

theorem unrated_int (y r : Int) (w : World) (h1 : 0 ≤ y) (h2 : y ≤ 9223372036854775807) (h3 : 0 ≤ r) (h4 : r ≤ 1000000) :
    Calls Try.prog 37 #[.int .i64 y, .int .i64 r] w fun e w' => e = .returned (.int .i64 (((y + 1) * 1000000 - 1) / (1000000 + r))) ∧ Below w.heap.size w w' := by
  obtain ⟨n, rfl⟩ := Int.eq_ofNat_of_zero_le h1
  obtain ⟨m, rfl⟩ := Int.eq_ofNat_of_zero_le h3
  have e : (((n : Int) + 1) * 1000000 - 1) / (1000000 + (m : Int)) = ((((n + 1) * 1000000 - 1) / (1000000 + m) : Nat) : Int) := by
    rw [Int.natCast_ediv, show (((n + 1) * 1000000 - 1 : Nat) : Int) = ((n : Int) + 1) * 1000000 - 1 by omega, show ((1000000 + m : Nat) : Int) = 1000000 + (m : Int) by omega]
  rw [e]
  exact unrated_any n m w (by omega) (by omega)

set_option maxHeartbeats 1000000 in
theorem out_any (b r x : Int) (w : World) (b2 : b ≤ 9223372036854775807) (x2 : x ≤ 9223372036854775807) :
    Calls Try.prog 22 #[.agg #[.int .i64 b, .int .i64 r], .int .i64 x] w fun e w' => e = .returned (.tuple #[.int .i64 (outN b r x), .int .i64 (outE b r x)]) ∧ Below w.heap.size w w' := by
  by_cases hR : rightB b r = true
  · have hr : 0 ≤ b ∧ 0 ≤ r ∧ r ≤ 1000000 := of_decide_eq_true hR
    by_cases hx : x < 0
    · have e1 : outN b r x = 0 := if_neg (by omega)
      have e2 : outE b r x = 1 := if_neg (by omega)
      rw [e1, e2]
      clear e1 e2
      have HR := hide hR
      clear hR
      go_enter Try.func22, Try.ntmps22
      go_wp2_with fail
      refine (fees1 _ b r _ (by simp) (by simp) (by simp) b2).mono ?_
      rw [HR.out]
      rintro e w1 ⟨rfl, hb⟩
      have hz : w.heap.size + 1 < w1.heap.size := by have := hb.size; simp at this; omega
      have HB := hide ((((Below.refl w.heap.size w).alloc (Nat.le_refl _) _).alloc (by simp) _).trans (hb.mono (by simp; omega)))
      clear hb
      go_wp2_with fail
      refine (may1_no _ x _ (by simp) hx).mono ?_
      rintro e w2 ⟨rfl, rfl⟩
      go_wp2
      go_ret2
      exact ⟨rfl, HB.out.alloc (by omega) _⟩
    · have hx0 : 0 ≤ x := by omega
      have HS := hide (fun w => sub_any x b w (by omega) x2 (by omega) b2)
      by_cases hl : x < b
      · have e1 : outN b r x = 0 := by unfold outN; rw [if_pos ⟨hR, hx0⟩, if_pos hl]
        have e2 : outE b r x = 20 := by unfold outE; rw [if_pos ⟨hR, hx0⟩, if_pos hl]
        rw [e1, e2]
        rw [show subN x b = 0 by unfold subN; rw [if_neg (by omega), if_pos hl], show subE x b = 20 by unfold subE; rw [if_neg (by omega), if_pos hl]] at HS
        clear e1 e2
        have HR := hide hR
        clear hR
        go_enter Try.func22, Try.ntmps22
        go_wp2_with fail
        refine (fees1 _ b r _ (by simp) (by simp) (by simp) b2).mono ?_
        rw [HR.out]
        rintro e w1 ⟨rfl, hb⟩
        have hz : w.heap.size + 1 < w1.heap.size := by have := hb.size; simp at this; omega
        have HB := hide ((((Below.refl w.heap.size w).alloc (Nat.le_refl _) _).alloc (by simp) _).trans (hb.mono (by simp; omega)))
        have q0 : w1.cell? ⟨w.heap.size, 0, none⟩ = some (.int .i64 b) := (hb.cell (by simp; omega)).trans (by simp)
        have hz0 : w.heap.size < w1.heap.size := by omega
        clear hb
        go_wp2_with fail
        refine (may1_yes _ x _ (by simp) hx0 x2).mono ?_
        rintro e w2 ⟨rfl, rfl⟩
        go_wp2_with fail
        refine (HS.out _).mono ?_
        rintro e w3 ⟨rfl, hb3⟩
        have HB3 := hide ((HB.out.alloc (by omega) _).trans (hb3.mono (by simp; omega)))
        clear hb3
        go_wp2
        go_ret2
        exact ⟨rfl, HB3.out⟩
      · have e1 : outN b r x = ((x - b + 1) * 1000000 - 1) / (1000000 + r) := by unfold outN; rw [if_pos ⟨hR, hx0⟩, if_neg hl]
        have e2 : outE b r x = 0 := by unfold outE; rw [if_pos ⟨hR, hx0⟩, if_neg hl]
        rw [e1, e2]
        rw [show subN x b = x - b by unfold subN; rw [if_neg (by omega), if_neg hl], show subE x b = 0 by unfold subE; rw [if_neg (by omega), if_neg hl]] at HS
        have HU := hide (fun w => unrated_int (x - b) r w (by omega) (by omega) hr.2.1 hr.2.2)
        clear e1 e2
        generalize ((x - b + 1) * 1000000 - 1) / (1000000 + r) = U at *
        have HR := hide hR
        clear hR
        go_enter Try.func22, Try.ntmps22
        go_wp2_with fail
        refine (fees1 _ b r _ (by simp) (by simp) (by simp) b2).mono ?_
        rw [HR.out]
        rintro e w1 ⟨rfl, hb⟩
        have hz : w.heap.size + 1 < w1.heap.size := by have := hb.size; simp at this; omega
        have HB := hide ((((Below.refl w.heap.size w).alloc (Nat.le_refl _) _).alloc (by simp) _).trans (hb.mono (by simp; omega)))
        have q0 : w1.cell? ⟨w.heap.size, 0, none⟩ = some (.int .i64 b) := (hb.cell (by simp; omega)).trans (by simp)
        have hz0 : w.heap.size < w1.heap.size := by omega
        have q1 : w1.cell? ⟨w.heap.size, 1, none⟩ = some (.int .i64 r) := (hb.cell (by simp; omega)).trans (by simp)
        clear hb
        go_wp2_with fail
        refine (may1_yes _ x _ (by simp) hx0 x2).mono ?_
        rintro e w2 ⟨rfl, rfl⟩
        go_wp2_with fail
        refine (HS.out _).mono ?_
        rintro e w3 ⟨rfl, hb3⟩
        have HB3 := hide ((HB.out.alloc (by omega) _).trans (hb3.mono (by simp; omega)))
        have z3 : w.heap.size < w3.heap.size := by have := hb3.size; simp at this; omega
        have q3 : w3.cell? ⟨w.heap.size, 1, none⟩ = some (.int .i64 r) := (hb3.cell (by simp; omega)).trans (by rw [World.cell?_alloc_past _ _ _ (by omega)]; exact q1)
        clear hb3 q0 q1
        go_wp2_with fail
        refine (HU.out _).mono ?_
        rintro e w4 ⟨rfl, hb4⟩
        have HB4 := hide (HB3.out.trans (hb4.mono (by omega)))
        clear hb4
        go_wp2
        go_ret2
        exact ⟨rfl, HB4.out⟩
  · have hR' : rightB b r = false := by simpa using hR
    have e1 : outN b r x = 0 := if_neg (fun h => hR h.1)
    have e2 : outE b r x = 1 := if_neg (fun h => hR h.1)
    rw [e1, e2]
    clear e1 e2 hR
    have HR := hide hR'
    clear hR'
    go_enter Try.func22, Try.ntmps22
    go_wp2_with fail
    refine (fees1 _ b r _ (by simp) (by simp) (by simp) b2).mono ?_
    rw [HR.out]
    rintro e w1 ⟨rfl, hb⟩
    have HB := hide ((((Below.refl w.heap.size w).alloc (Nat.le_refl _) _).alloc (by simp) _).trans (hb.mono (by simp; omega)))
    clear hb
    go_wp2
    go_ret2
    exact ⟨rfl, HB.out⟩

/-- what comes in, where all may be -/
theorem in_ok (b r x : Int) (hR : rightB b r = true) (hx : 0 ≤ x) (h : x + (b + x * r / 1000000) ≤ 9223372036854775807) (hp : 0 ≤ x * r / 1000000) :
    feeN b r x = b + x * r / 1000000 ∧ feeE b r x = 0 ∧ inN b r x = x + (b + x * r / 1000000) ∧ inE b r x = 0 := by
  have hr : 0 ≤ b ∧ 0 ≤ r ∧ r ≤ 1000000 := of_decide_eq_true hR
  have f1 : feeN b r x = b + x * r / 1000000 := by unfold feeN addN; rw [if_pos ⟨hR, hx⟩, if_neg (by omega), if_neg (by omega)]
  have f2 : feeE b r x = 0 := by unfold feeE addE; rw [if_pos ⟨hR, hx⟩, if_neg (by omega), if_neg (by omega)]
  refine ⟨f1, f2, ?_, ?_⟩
  · unfold inN addN
    rw [if_pos f2, f1, if_neg (by omega), if_neg (by omega)]
  · unfold inE addE
    rw [if_pos f2, f1, if_neg (by omega), if_neg (by omega)]
theorem in_no (b r x : Int) (hR : rightB b r = true) (hx : 0 ≤ x) (h : 9223372036854775807 < x + (b + x * r / 1000000)) (hp : 0 ≤ x * r / 1000000) : inN b r x = 0 ∧ inE b r x = 20 := by
  have hr : 0 ≤ b ∧ 0 ≤ r ∧ r ≤ 1000000 := of_decide_eq_true hR
  by_cases hf : b + x * r / 1000000 ≤ 9223372036854775807
  · have f1 : feeN b r x = b + x * r / 1000000 := by unfold feeN addN; rw [if_pos ⟨hR, hx⟩, if_neg (by omega), if_neg (by omega)]
    have f2 : feeE b r x = 0 := by unfold feeE addE; rw [if_pos ⟨hR, hx⟩, if_neg (by omega), if_neg (by omega)]
    unfold inN inE addN addE
    rw [if_pos f2, if_pos f2, f1, if_neg (by omega), if_pos (by omega), if_neg (by omega), if_pos (by omega)]
    exact ⟨rfl, rfl⟩
  · have f2 : feeE b r x = 20 := by unfold feeE addE; rw [if_pos ⟨hR, hx⟩, if_neg (by omega), if_pos (by omega)]
    unfold inN inE
    rw [f2]
    exact ⟨rfl, rfl⟩
theorem fee_no (b r x : Int) (h : ¬ (rightB b r = true ∧ 0 ≤ x)) : feeN b r x = 0 ∧ feeE b r x = 1 ∧ inN b r x = 0 ∧ inE b r x = 1 := by
  have f1 : feeN b r x = 0 := if_neg h
  have f2 : feeE b r x = 1 := if_neg h
  refine ⟨f1, f2, ?_, ?_⟩
  · unfold inN; rw [f2]; rfl
  · unfold inE; rw [f2]; rfl
end Go.Proofs.Ytclimopeejkdbab
