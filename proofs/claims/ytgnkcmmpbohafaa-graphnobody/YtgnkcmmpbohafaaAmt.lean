/- Contracts of package amount's plain calls over this seat's translation. -/
import Derived.Test.YtgnkcmmpbohafaaRows
import Derived.WalkKit
import Derived.WalkSpells
import Derived.WalkLawsBesides
import Derived.Handy
namespace Go.Proofs.Ytgnkcmmpbohafaa
open Go.RowKit
set_option linter.unusedVariables false

theorem hide {p : Prop} (h : p) : Hid p := h

/-- all of the first n numbers are amounts -/
def nnB (z : Nat → Int) (n : Nat) : Bool := decide (∀ k, k < n → 0 ≤ z k)

set_option maxHeartbeats 400000 in
theorem may_row (b off len cap : Nat) (z : Nat → Int) (w : World) (hb : len ≤ 9223372036854775807)
    (hc : ∀ k, k < len → w.cell? ⟨b, off + k, none⟩ = some (.int .i64 (z k))) (hw : ∀ k, k < len → z k ≤ 9223372036854775807) :
    Calls Try.prog 106 #[.slice (some ⟨b, off, none⟩) len cap] w fun e w' => e = .returned (.bool (nnB z len)) ∧ w' = w := by
  go_enter Try.func106, Try.ntmps106
  go_wp2
  go_loop [7] (fun i => ∃ k : Nat, k ≤ len ∧ i = .int .i64 k ∧ Hid (∀ j, j < k → 0 ≤ z j)) (fun i => len - (intOf i).toNat)
  case atStart => exact ⟨0, Nat.zero_le _, rfl, fun j hj => absurd hj (Nat.not_lt_zero _)⟩
  case round =>
    obtain ⟨k, hk, rfl, HN⟩ := hrel
    by_cases hlt : k < len
    · have hck := hc k hlt
      have hwk := hw k hlt
      have HC := hide hc
      have HW := hide hw
      clear hc hw
      by_cases h0 : z k < 0
      · have HF : Hid (nnB z len = false) := by
          refine decide_eq_false fun h => ?_
          have := h k hlt
          omega
        go_wp2
        go_ret
        exact ⟨by rw [HF.out]; rfl, rfl⟩
      · go_wp2
        go_round
        case rel =>
          refine ⟨k + 1, by omega, by go_num, fun j hj => ?_⟩
          by_cases hjk : j < k
          · exact HN.out j hjk
          · have : j = k := by omega
            subst this; omega
        case measure => simp [intOf]; omega
    · have HF : Hid (nnB z len = true) := by
        refine decide_eq_true fun j hj => HN.out j (by omega)
      clear hc hw
      go_wp2
      go_ret
      exact ⟨by rw [HF.out]; rfl, rfl⟩

set_option maxHeartbeats 400000 in
theorem may_none (ao : Option Addr) (cap : Nat) (z : Nat → Int) (w : World) :
    Calls Try.prog 106 #[.slice ao 0 cap] w fun e w' => e = .returned (.bool (nnB z 0)) ∧ w' = w := by
  have HF : Hid (nnB z 0 = true) := decide_eq_true fun j hj => absurd hj (Nat.not_lt_zero _)
  go_enter Try.func106, Try.ntmps106
  go_wp2
  refine wp_loop_rounds 1 ?_
  rw [rounds_succ]
  go_wp2
  go_ret
  exact ⟨by rw [HF.out]; rfl, rfl⟩

theorem may1_yes (bl : Nat) (a : Int) (w : World) (hc : w.cell? ⟨bl, 0, none⟩ = some (.int .i64 a)) (h1 : 0 ≤ a) (h2 : a ≤ 9223372036854775807) :
    Calls Try.prog 106 #[.slice (some ⟨bl, 0, none⟩) 1 1] w fun e w' => e = .returned (.bool true) ∧ w' = w := by
  refine (may_row bl 0 1 1 (fun _ => a) _ (by omega) (fun k hk => ?_) (fun k _ => h2)).mono fun e w' h => ?_
  · match k, hk with
    | 0, _ => exact hc
  · rw [show nnB (fun _ => a) 1 = true from decide_eq_true fun k _ => h1] at h
    exact h
theorem may1_no (bl : Nat) (a : Int) (w : World) (hc : w.cell? ⟨bl, 0, none⟩ = some (.int .i64 a)) (h1 : a < 0) :
    Calls Try.prog 106 #[.slice (some ⟨bl, 0, none⟩) 1 1] w fun e w' => e = .returned (.bool false) ∧ w' = w := by
  refine (may_row bl 0 1 1 (fun _ => a) _ (by omega) (fun k hk => ?_) (fun k _ => by omega)).mono fun e w' h => ?_
  · match k, hk with
    | 0, _ => exact hc
  · rw [show nnB (fun _ => a) 1 = false from decide_eq_false fun h => by have e0 := h 0 (by omega); simp at e0; omega] at h
    exact h
theorem may_one_yes (a : Int) (w : World) (h1 : 0 ≤ a) (h2 : a ≤ 9223372036854775807) :
    Calls Try.prog 106 #[.slice (some ⟨w.heap.size, 0, none⟩) 1 1] (w.alloc (.cells #[.int .i64 a] 3)) fun e w' => e = .returned (.bool true) ∧ w' = w.alloc (.cells #[.int .i64 a] 3) :=
  may1_yes _ a _ (by simp) h1 h2
theorem may_one_no (a : Int) (w : World) (h1 : a < 0) :
    Calls Try.prog 106 #[.slice (some ⟨w.heap.size, 0, none⟩) 1 1] (w.alloc (.cells #[.int .i64 a] 3)) fun e w' => e = .returned (.bool false) ∧ w' = w.alloc (.cells #[.int .i64 a] 3) :=
  may1_no _ a _ (by simp) h1
def pick2 (a b : Int) : Nat → Int := fun k => if k = 0 then a else b
theorem may_two_yes (a b : Int) (w : World) (h1 : 0 ≤ a) (h2 : a ≤ 9223372036854775807) (h3 : 0 ≤ b) (h4 : b ≤ 9223372036854775807) :
    Calls Try.prog 106 #[.slice (some ⟨w.heap.size, 0, none⟩) 2 2] (w.alloc (.cells #[.int .i64 a, .int .i64 b] 3)) fun e w' => e = .returned (.bool true) ∧ w' = w.alloc (.cells #[.int .i64 a, .int .i64 b] 3) := by
  refine (may_row w.heap.size 0 2 2 (pick2 a b) _ (by omega) (fun k hk => ?_) (fun k _ => by unfold pick2; split <;> omega)).mono fun e w' h => ?_
  · match k, hk with
    | 0, _ => simp [pick2]
    | 1, _ => simp [pick2]
  · rw [show nnB (pick2 a b) 2 = true from decide_eq_true fun k _ => by unfold pick2; split <;> omega] at h
    exact h
theorem may_two_no (a b : Int) (w : World) (h1 : a < 0 ∨ b < 0) (h2 : a ≤ 9223372036854775807) (h4 : b ≤ 9223372036854775807) :
    Calls Try.prog 106 #[.slice (some ⟨w.heap.size, 0, none⟩) 2 2] (w.alloc (.cells #[.int .i64 a, .int .i64 b] 3)) fun e w' => e = .returned (.bool false) ∧ w' = w.alloc (.cells #[.int .i64 a, .int .i64 b] 3) := by
  refine (may_row w.heap.size 0 2 2 (pick2 a b) _ (by omega) (fun k hk => ?_) (fun k _ => by unfold pick2; split <;> omega)).mono fun e w' h => ?_
  · match k, hk with
    | 0, _ => simp [pick2]
    | 1, _ => simp [pick2]
  · rw [show nnB (pick2 a b) 2 = false from decide_eq_false fun h => by
      have e0 := h 0 (by omega)
      have e1 := h 1 (by omega)
      simp [pick2] at e0 e1; omega] at h
    exact h

/-- a sum of two amounts, as the call answers it, and its error -/
def addN (a b : Int) : Int := if a < 0 ∨ b < 0 then 0 else if a > 9223372036854775807 - b then 0 else a + b
def addE (a b : Int) : Int := if a < 0 ∨ b < 0 then 1 else if a > 9223372036854775807 - b then 20 else 0
def subN (a b : Int) : Int := if a < 0 ∨ b < 0 then 0 else if b > a then 0 else a - b
def subE (a b : Int) : Int := if a < 0 ∨ b < 0 then 1 else if b > a then 20 else 0

theorem ret2 {k : IntKind} {a b c d : Int} (h1 : a = c) (h2 : b = d) : Ending.returned (.tuple #[.int k a, .int k b]) = .returned (.tuple #[.int k c, .int k d]) := by rw [h1, h2]

set_option maxHeartbeats 400000 in
theorem add_any (a b : Int) (w : World) (a1 : -9223372036854775808 ≤ a) (a2 : a ≤ 9223372036854775807) (b1 : -9223372036854775808 ≤ b) (b2 : b ≤ 9223372036854775807) :
    Calls Try.prog 95 #[.int .i64 a, .int .i64 b] w fun e w' => e = .returned (.tuple #[.int .i64 (addN a b), .int .i64 (addE a b)]) ∧ Below w.heap.size w w' := by
  have hB : ∀ o, Below w.heap.size w (w.alloc o) := fun o => (Below.refl _ _).alloc (Nat.le_refl _) o
  by_cases hn : a < 0 ∨ b < 0
  · have e1 : addN a b = 0 := by unfold addN; rw [if_pos hn]
    have e2 : addE a b = 1 := by unfold addE; rw [if_pos hn]
    rw [e1, e2]
    clear e1 e2
    go_enter Try.func95, Try.ntmps95
    go_wp2_with (go_at_call 106; refine (may_two_no a b w hn a2 b2).mono ?_; rintro e w' ⟨rfl, rfl⟩)
    go_ret2
    exact ⟨rfl, hB _⟩
  · have h1 : 0 ≤ a := by omega
    have h2 : 0 ≤ b := by omega
    by_cases ho : 9223372036854775807 - b < a
    · have e1 : addN a b = 0 := by unfold addN; rw [if_neg hn, if_pos ho]
      have e2 : addE a b = 20 := by unfold addE; rw [if_neg hn, if_pos ho]
      rw [e1, e2]
      clear e1 e2 hn
      go_enter Try.func95, Try.ntmps95
      go_wp2_with (go_at_call 106; refine (may_two_yes a b w h1 a2 h2 b2).mono ?_; rintro e w' ⟨rfl, rfl⟩)
      go_ret2
      exact ⟨rfl, hB _⟩
    · have e1 : addN a b = a + b := by unfold addN; rw [if_neg hn, if_neg ho]
      have e2 : addE a b = 0 := by unfold addE; rw [if_neg hn, if_neg ho]
      rw [e1, e2]
      clear e1 e2 hn
      go_enter Try.func95, Try.ntmps95
      go_wp2_with (go_at_call 106; refine (may_two_yes a b w h1 a2 h2 b2).mono ?_; rintro e w' ⟨rfl, rfl⟩)
      go_ret2
      exact ⟨rfl, hB _⟩

end Go.Proofs.Ytgnkcmmpbohafaa
