/- Contracts of amount.Fee, In and Out over this seat's translation. -/
import Derived.Test.YtgnkcmmpbohafaaAmtRated
import Derived.Test.YtgnkcmmpbohafaaAmtFees
import Derived.Deep.RegionWith
namespace Go.Proofs.Ytgnkcmmpbohafaa
open Go.RowKit
set_option linter.unusedVariables false

/-- the fee of x, and its error -/
def feeN (b r x : Int) : Int := if rightB b r = true ∧ 0 ≤ x then addN b (x * r / 1000000) else 0
def feeE (b r x : Int) : Int := if rightB b r = true ∧ 0 ≤ x then addE b (x * r / 1000000) else 1

theorem bcell {W w1 : World} (hb : Below W.heap.size W w1) : (∀ b o, b < W.heap.size → w1.cell? ⟨b, o, none⟩ = W.cell? ⟨b, o, none⟩) ∧ (∀ b o, b < W.heap.size → w1.frozen? ⟨b, o, none⟩ = W.frozen? ⟨b, o, none⟩) :=
  ⟨fun b o h => hb.cell (p := ⟨b, o, none⟩) h, fun b o h => hb.frozen (p := ⟨b, o, none⟩) h⟩

theorem rated_int (x r : Int) (w : World) (h1 : 0 ≤ x) (h2 : x ≤ 9223372036854775807) (h3 : 0 ≤ r) (h4 : r ≤ 1000000) :
    Calls Try.prog 107 #[.int .i64 x, .int .i64 r] w fun e w' => e = .returned (.int .i64 (x * r / 1000000)) ∧ Below w.heap.size w w' := by
  obtain ⟨n, rfl⟩ := Int.eq_ofNat_of_zero_le h1
  obtain ⟨m, rfl⟩ := Int.eq_ofNat_of_zero_le h3
  refine (rated_any n m w (by omega) (by omega)).mono fun e w' h => ?_
  rw [show (n : Int) * (m : Int) / 1000000 = ((n * m / 1000000 : Nat) : Int) by rw [← Int.natCast_mul]; rfl]
  exact h

theorem part_le (x r : Int) (h1 : 0 ≤ x) (h3 : 0 ≤ r) (h4 : r ≤ 1000000) : 0 ≤ x * r / 1000000 ∧ x * r / 1000000 ≤ x := by
  obtain ⟨n, rfl⟩ := Int.eq_ofNat_of_zero_le h1
  obtain ⟨m, rfl⟩ := Int.eq_ofNat_of_zero_le h3
  have := rated_le n m (by omega)
  rw [show (n : Int) * (m : Int) / 1000000 = ((n * m / 1000000 : Nat) : Int) by rw [← Int.natCast_mul]; rfl]
  omega

set_option maxHeartbeats 1000000 in
theorem fee_any (b r x : Int) (w : World) (b2 : b ≤ 9223372036854775807) (x2 : x ≤ 9223372036854775807) :
    Calls Try.prog 94 #[.agg #[.int .i64 b, .int .i64 r], .int .i64 x] w fun e w' => e = .returned (.tuple #[.int .i64 (feeN b r x), .int .i64 (feeE b r x)]) ∧ Below w.heap.size w w' := by
  by_cases hR : rightB b r = true
  · have hr : 0 ≤ b ∧ 0 ≤ r ∧ r ≤ 1000000 := of_decide_eq_true hR
    by_cases hx : x < 0
    · have e1 : feeN b r x = 0 := if_neg (by omega)
      have e2 : feeE b r x = 1 := if_neg (by omega)
      rw [e1, e2]
      clear e1 e2
      have HR := hide hR
      clear hR
      go_enter Try.func94, Try.ntmps94
      go_wp2_with fail
      refine (fees1 _ b r _ (by simp) (by simp) (by simp) b2).mono ?_
      rw [HR.out]
      rintro e w1 ⟨rfl, hb⟩
      obtain ⟨hc, hf⟩ := bcell hb
      have hz : w.heap.size + 1 < w1.heap.size := by have := hb.size; simp at this; omega
      have hB : Below w.heap.size w w1 := ((((Below.refl _ _).alloc (Nat.le_refl _) _).alloc (by simp) _).trans (hb.mono (by simp; omega)))
      clear hb
      go_wp2_with fail
      refine (may1_no _ x _ (by simp) hx).mono ?_
      rintro e w2 ⟨rfl, rfl⟩
      go_wp2
      go_ret2
      exact ⟨rfl, hB.alloc (by omega) _⟩
    · have hx0 : 0 ≤ x := by omega
      have e1 : feeN b r x = addN b (x * r / 1000000) := if_pos ⟨hR, hx0⟩
      have e2 : feeE b r x = addE b (x * r / 1000000) := if_pos ⟨hR, hx0⟩
      have hp := part_le x r hx0 hr.2.1 hr.2.2
      have HC := hide (fun w => rated_int x r w hx0 x2 hr.2.1 hr.2.2)
      rw [e1, e2]
      clear e1 e2
      generalize x * r / 1000000 = X at hp HC ⊢
      have HR := hide hR
      clear hR
      go_enter Try.func94, Try.ntmps94
      go_wp2_with fail
      refine (fees1 _ b r _ (by simp) (by simp) (by simp) b2).mono ?_
      rw [HR.out]
      rintro e w1 ⟨rfl, hb⟩
      obtain ⟨hc, hf⟩ := bcell hb
      have hz : w.heap.size + 1 < w1.heap.size := by have := hb.size; simp at this; omega
      have hB : Below w.heap.size w w1 := ((((Below.refl _ _).alloc (Nat.le_refl _) _).alloc (by simp) _).trans (hb.mono (by simp; omega)))
      have q0 : w1.cell? ⟨w.heap.size, 0, none⟩ = some (.int .i64 b) := (hc _ _ (by simp; omega)).trans (by simp)
      have q1 : w1.cell? ⟨w.heap.size, 1, none⟩ = some (.int .i64 r) := (hc _ _ (by simp; omega)).trans (by simp)
      clear hb hc hf
      go_wp2_with fail
      refine (may1_yes _ x _ (by simp) hx0 x2).mono ?_
      rintro e w2 ⟨rfl, rfl⟩
      go_wp2
      have p0 : (w1.alloc (.cells #[.int .i64 x] 3)).cell? ⟨w.heap.size, 0, none⟩ = some (.int .i64 b) := by rw [World.cell?_alloc_past _ _ _ (by show w.heap.size < _; omega)]; exact q0
      have p1 : (w1.alloc (.cells #[.int .i64 x] 3)).cell? ⟨w.heap.size, 1, none⟩ = some (.int .i64 r) := by rw [World.cell?_alloc_past _ _ _ (by show w.heap.size < _; omega)]; exact q1
      have pz : w.heap.size < (w1.alloc (.cells #[.int .i64 x] 3)).heap.size := by simp; omega
      have pB : Below w.heap.size w (w1.alloc (.cells #[.int .i64 x] 3)) := hB.alloc (by omega) _
      clear q0 q1 hB hz
      generalize w1.alloc (.cells #[.int .i64 x] 3) = W2 at p0 p1 pz pB ⊢
      have PB := hide pB
      clear pB
      go_region_with (first
        | (go_at_call 107; refine (HC.out _).mono ?_; rintro e w3 ⟨rfl, hb3⟩; have p3 : w3.cell? ⟨w.heap.size, 0, none⟩ = some (.int .i64 b) := (hb3.cell (p := ⟨w.heap.size, 0, none⟩) (by simpa using pz)).trans (by simpa using p0); have z3 : W2.heap.size ≤ w3.heap.size := by simpa using hb3.size)
        | (go_at_call 95; refine (add_any b X _ (by omega) (by omega) (by omega) (by omega)).mono ?_; rintro e w4 ⟨rfl, hb4⟩))
      all_goals
        go_wp2
        go_ret2
        exact ⟨rfl, ((PB.out.drew).trans (hb3.mono (by simpa using Nat.le_of_lt pz))).trans (hb4.mono (by omega))⟩
  · have hR' : rightB b r = false := by simpa using hR
    have e1 : feeN b r x = 0 := if_neg (fun h => hR h.1)
    have e2 : feeE b r x = 1 := if_neg (fun h => hR h.1)
    rw [e1, e2]
    clear e1 e2 hR
    have HR := hide hR'
    clear hR'
    go_enter Try.func94, Try.ntmps94
    go_wp2_with fail
    refine (fees1 _ b r _ (by simp) (by simp) (by simp) b2).mono ?_
    rw [HR.out]
    rintro e w1 ⟨rfl, hb⟩
    have hB : Below w.heap.size w w1 := ((((Below.refl _ _).alloc (Nat.le_refl _) _).alloc (by simp) _).trans (hb.mono (by simp; omega)))
    clear hb
    go_wp2
    go_ret2
    exact ⟨rfl, hB⟩

theorem feeN_le (b r x : Int) (hb : b ≤ 9223372036854775807) (hx : x ≤ 9223372036854775807) : 0 ≤ feeN b r x ∧ feeN b r x ≤ 9223372036854775807 := by
  unfold feeN addN
  repeat' split
  all_goals omega
theorem feeE_cases (b r x : Int) : feeE b r x = 0 ∨ feeE b r x = 1 ∨ feeE b r x = 20 := by
  unfold feeE addE
  repeat' split
  all_goals omega

/-- what comes in, and its error -/
def inN (b r x : Int) : Int := if feeE b r x = 0 then addN x (feeN b r x) else 0
def inE (b r x : Int) : Int := if feeE b r x = 0 then addE x (feeN b r x) else feeE b r x

set_option maxHeartbeats 1000000 in
theorem in_any (b r x : Int) (w : World) (b2 : b ≤ 9223372036854775807) (x1 : -9223372036854775808 ≤ x) (x2 : x ≤ 9223372036854775807) :
    Calls Try.prog 76 #[.agg #[.int .i64 b, .int .i64 r], .int .i64 x] w fun e w' => e = .returned (.tuple #[.int .i64 (inN b r x), .int .i64 (inE b r x)]) ∧ Below w.heap.size w w' := by
  have HC := hide (fun w => fee_any b r x w b2 x2)
  have hl := feeN_le b r x b2 x2
  by_cases h0 : feeE b r x = 0
  · have e1 : inN b r x = addN x (feeN b r x) := if_pos h0
    have e2 : inE b r x = addE x (feeN b r x) := if_pos h0
    rw [e1, e2]
    rw [h0] at HC
    clear e1 e2 h0
    generalize feeN b r x = N at *
    have HB := hide (fun w => add_any x N w x1 x2 (by omega) hl.2)
    go_enter Try.func76, Try.ntmps76
    go_wp2_with fail
    refine (HC.out _).mono ?_
    rintro e w1 ⟨rfl, hb⟩
    have hz : w.heap.size < w1.heap.size := by have := hb.size; simp at this; omega
    have hB : Below w.heap.size w w1 := ((Below.refl _ _).alloc (Nat.le_refl _) _).trans (hb.mono (by simp))
    clear hb
    go_wp2_with fail
    refine (HB.out _).mono ?_
    rintro e w2 ⟨rfl, hb2⟩
    go_wp2
    go_ret2
    exact ⟨rfl, hB.trans (hb2.mono (by omega))⟩
  · have e1 : inN b r x = 0 := if_neg h0
    have e2 : inE b r x = feeE b r x := if_neg h0
    rw [e1, e2]
    clear e1 e2
    have hc := feeE_cases b r x
    generalize feeN b r x = N at *
    generalize feeE b r x = E at *
    have g0 : (E != 0) = true := by simp; exact h0
    go_enter Try.func76, Try.ntmps76
    go_wp2_with fail
    refine (HC.out _).mono ?_
    rintro e w1 ⟨rfl, hb⟩
    have hB : Below w.heap.size w w1 := ((Below.refl _ _).alloc (Nat.le_refl _) _).trans (hb.mono (by simp))
    clear hb
    go_wp2
    go_ret2
    exact ⟨rfl, hB⟩
end Go.Proofs.Ytgnkcmmpbohafaa
