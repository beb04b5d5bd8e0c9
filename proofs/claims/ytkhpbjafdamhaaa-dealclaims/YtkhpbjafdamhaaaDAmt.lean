/- Contracts of package amount's plain calls over this seat's translation. -/
import Derived.Test.YtkhpbjafdamhaaaDFun
namespace Go.Proofs.Ytkhpbjafdamhaaa
open Go.RowKit
set_option linter.unusedVariables false


/-- all of the first n numbers are amounts -/
def nnB (z : Nat → Int) (n : Nat) : Bool := decide (∀ k, k < n → 0 ≤ z k)

set_option maxHeartbeats 400000 in
theorem may_row (b off len cap : Nat) (z : Nat → Int) (w : World) (hb : len ≤ 9223372036854775807)
    (hc : ∀ k, k < len → w.cell? ⟨b, off + k, none⟩ = some (.int .i64 (z k))) (hw : ∀ k, k < len → z k ≤ 9223372036854775807) :
    Calls Try.prog 49 #[.slice (some ⟨b, off, none⟩) len cap] w fun e w' => e = .returned (.bool (nnB z len)) ∧ w' = w := by
  go_enter Try.func49, Try.ntmps49
  go_wp2
  go_loop [7] (fun i => ∃ k : Nat, k ≤ len ∧ i = .int .i64 k ∧ Hid (∀ j, j < k → 0 ≤ z j)) (fun i => len - (intOf i).toNat)
  case atStart => exact ⟨0, Nat.zero_le _, rfl, fun j hj => absurd hj (Nat.not_lt_zero _)⟩
  case round =>
    obtain ⟨k, hk, rfl, HN⟩ := hrel
    by_cases hlt : k < len
    · have hck := hc k hlt
      have hwk := hw k hlt; have HC := hide hc; have HW := hide hw; clear hc hw
      by_cases h0 : z k < 0
      · have HF : Hid (nnB z len = false) := by
          refine decide_eq_false fun h => ?_
          have := h k hlt
          omega
        go_wp2
        go_ret
        exact ⟨by rw [HF.out]; rfl, rfl⟩
      · go_wp2
        go_round
        case rel =>
          refine ⟨k + 1, by omega, by go_num, fun j hj => ?_⟩
          by_cases hjk : j < k
          · exact HN.out j hjk
          · have : j = k := by omega
            subst this; omega
        case measure => simp [intOf]; omega
    · have HF : Hid (nnB z len = true) := by
        refine decide_eq_true fun j hj => HN.out j (by omega)
      clear hc hw
      go_wp2
      go_ret
      exact ⟨by rw [HF.out]; rfl, rfl⟩

def pick2 (a b : Int) : Nat → Int := fun k => if k = 0 then a else b
theorem may_two_yes (a b : Int) (w : World) (h1 : 0 ≤ a) (h2 : a ≤ 9223372036854775807) (h3 : 0 ≤ b) (h4 : b ≤ 9223372036854775807) :
    Calls Try.prog 49 #[.slice (some ⟨w.heap.size, 0, none⟩) 2 2] (w.alloc (.cells #[.int .i64 a, .int .i64 b] 3)) fun e w' => e = .returned (.bool true) ∧ w' = w.alloc (.cells #[.int .i64 a, .int .i64 b] 3) := by
  refine (may_row w.heap.size 0 2 2 (pick2 a b) _ (by omega) (fun k hk => ?_) (fun k _ => by unfold pick2; split <;> omega)).mono fun e w' h => ?_
  · match k, hk with
    | 0, _ => simp [pick2]
    | 1, _ => simp [pick2]
  · rw [show nnB (pick2 a b) 2 = true from decide_eq_true fun k _ => by unfold pick2; split <;> omega] at h
    exact h
theorem may_two_no (a b : Int) (w : World) (h1 : a < 0 ∨ b < 0) (h2 : a ≤ 9223372036854775807) (h4 : b ≤ 9223372036854775807) :
    Calls Try.prog 49 #[.slice (some ⟨w.heap.size, 0, none⟩) 2 2] (w.alloc (.cells #[.int .i64 a, .int .i64 b] 3)) fun e w' => e = .returned (.bool false) ∧ w' = w.alloc (.cells #[.int .i64 a, .int .i64 b] 3) := by
  refine (may_row w.heap.size 0 2 2 (pick2 a b) _ (by omega) (fun k hk => ?_) (fun k _ => by unfold pick2; split <;> omega)).mono fun e w' h => ?_
  · match k, hk with
    | 0, _ => simp [pick2]
    | 1, _ => simp [pick2]
  · rw [show nnB (pick2 a b) 2 = false from decide_eq_false fun h => by
      have e0 := h 0 (by omega); have e1 := h 1 (by omega)
      simp [pick2] at e0 e1; omega] at h
    exact h

/-- a sum of two amounts, as the call answers it, and its error -/
def addN (a b : Int) : Int := if a < 0 ∨ b < 0 then 0 else if a > 9223372036854775807 - b then 0 else a + b
def addE (a b : Int) : Int := if a < 0 ∨ b < 0 then 1 else if a > 9223372036854775807 - b then 20 else 0
def subN (a b : Int) : Int := if a < 0 ∨ b < 0 then 0 else if b > a then 0 else a - b
def subE (a b : Int) : Int := if a < 0 ∨ b < 0 then 1 else if b > a then 20 else 0

set_option maxHeartbeats 400000 in
theorem add_any (a b : Int) (w : World) (a1 : -9223372036854775808 ≤ a) (a2 : a ≤ 9223372036854775807) (b1 : -9223372036854775808 ≤ b) (b2 : b ≤ 9223372036854775807) :
    Calls Try.prog 50 #[.int .i64 a, .int .i64 b] w fun e w' => e = .returned (.tuple #[.int .i64 (addN a b), .int .i64 (addE a b)]) ∧ Below w.heap.size w w' := by
  have hB : ∀ o, Below w.heap.size w (w.alloc o) := fun o => (Below.refl _ _).alloc (Nat.le_refl _) o
  by_cases hn : a < 0 ∨ b < 0
  · have e1 : addN a b = 0 := by unfold addN; rw [if_pos hn]
    have e2 : addE a b = 1 := by unfold addE; rw [if_pos hn]
    rw [e1, e2]; clear e1 e2; go_enter Try.func50, Try.ntmps50
    go_wp2_with (go_at_call 49; refine (may_two_no a b w hn a2 b2).mono ?_; rintro e w' ⟨rfl, rfl⟩)
    go_ret2
    exact ⟨rfl, hB _⟩
  · have h1 : 0 ≤ a := by omega
    have h2 : 0 ≤ b := by omega
    by_cases ho : 9223372036854775807 - b < a
    · have e1 : addN a b = 0 := by unfold addN; rw [if_neg hn, if_pos ho]
      have e2 : addE a b = 20 := by unfold addE; rw [if_neg hn, if_pos ho]
      rw [e1, e2]; clear e1 e2 hn; go_enter Try.func50, Try.ntmps50
      go_wp2_with (go_at_call 49; refine (may_two_yes a b w h1 a2 h2 b2).mono ?_; rintro e w' ⟨rfl, rfl⟩)
      go_ret2
      exact ⟨rfl, hB _⟩
    · have e1 : addN a b = a + b := by unfold addN; rw [if_neg hn, if_neg ho]
      have e2 : addE a b = 0 := by unfold addE; rw [if_neg hn, if_neg ho]
      rw [e1, e2]; clear e1 e2 hn; go_enter Try.func50, Try.ntmps50
      go_wp2_with (go_at_call 49; refine (may_two_yes a b w h1 a2 h2 b2).mono ?_; rintro e w' ⟨rfl, rfl⟩)
      go_ret2
      exact ⟨rfl, hB _⟩

set_option maxHeartbeats 400000 in
theorem sub_any (a b : Int) (w : World) (a1 : -9223372036854775808 ≤ a) (a2 : a ≤ 9223372036854775807) (b1 : -9223372036854775808 ≤ b) (b2 : b ≤ 9223372036854775807) :
    Calls Try.prog 47 #[.int .i64 a, .int .i64 b] w fun e w' => e = .returned (.tuple #[.int .i64 (subN a b), .int .i64 (subE a b)]) ∧ Below w.heap.size w w' := by
  have hB : ∀ o, Below w.heap.size w (w.alloc o) := fun o => (Below.refl _ _).alloc (Nat.le_refl _) o
  by_cases hn : a < 0 ∨ b < 0
  · have e1 : subN a b = 0 := by unfold subN; rw [if_pos hn]
    have e2 : subE a b = 1 := by unfold subE; rw [if_pos hn]
    rw [e1, e2]; clear e1 e2; go_enter Try.func47, Try.ntmps47
    go_wp2_with (go_at_call 49; refine (may_two_no a b w hn a2 b2).mono ?_; rintro e w' ⟨rfl, rfl⟩)
    go_ret2
    exact ⟨rfl, hB _⟩
  · have h1 : 0 ≤ a := by omega
    have h2 : 0 ≤ b := by omega
    by_cases ho : a < b
    · have e1 : subN a b = 0 := by unfold subN; rw [if_neg hn, if_pos ho]
      have e2 : subE a b = 20 := by unfold subE; rw [if_neg hn, if_pos ho]
      rw [e1, e2]; clear e1 e2 hn; go_enter Try.func47, Try.ntmps47
      go_wp2_with (go_at_call 49; refine (may_two_yes a b w h1 a2 h2 b2).mono ?_; rintro e w' ⟨rfl, rfl⟩)
      go_ret2
      exact ⟨rfl, hB _⟩
    · have e1 : subN a b = a - b := by unfold subN; rw [if_neg hn, if_neg ho]
      have e2 : subE a b = 0 := by unfold subE; rw [if_neg hn, if_neg ho]
      rw [e1, e2]; clear e1 e2 hn; go_enter Try.func47, Try.ntmps47
      go_wp2_with (go_at_call 49; refine (may_two_yes a b w h1 a2 h2 b2).mono ?_; rintro e w' ⟨rfl, rfl⟩)
      go_ret2
      exact ⟨rfl, hB _⟩
end Go.Proofs.Ytkhpbjafdamhaaa
