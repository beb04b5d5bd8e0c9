/- Contracts of amount.mayFees over this seat's translation. -/
import Derived.Test.YtgnkcmmpbohafaaAmt
namespace Go.Proofs.Ytgnkcmmpbohafaa
open Go.RowKit
set_option linter.unusedVariables false

/-- may fees be? -/
def rightB (b r : Int) : Bool := decide (0 ≤ b ∧ 0 ≤ r ∧ r ≤ 1000000)
def rightsB (b r : Nat → Int) (n : Nat) : Bool := decide (∀ k, k < n → rightB (b k) (r k) = true)

set_option maxHeartbeats 1000000 in
theorem fees_row (bl off len cap : Nat) (b r : Nat → Int) (w : World) (hb : len ≤ 9223372036854775807) (hbl : bl < w.heap.size)
    (hc : ∀ k, k < len → w.cell? ⟨bl, off + k * 2, none⟩ = some (.int .i64 (b k)) ∧ w.cell? ⟨bl, off + k * 2 + 1, none⟩ = some (.int .i64 (r k)))
    (hw : ∀ k, k < len → b k ≤ 9223372036854775807) :
    Calls Try.prog 105 #[.slice (some ⟨bl, off, none⟩) len cap] w fun e w' => e = .returned (.bool (rightsB b r len)) ∧ Below w.heap.size w w' := by
  go_enter Try.func105, Try.ntmps105
  go_wp2
  go_loopw [7] (fun i wr => ∃ k : Nat, k ≤ len ∧ i = .int .i64 k ∧ Hid (∀ j, j < k → rightB (b j) (r j) = true) ∧ Below w.heap.size w wr) (fun i _ => len - (intOf i).toNat)
  case atStart => exact ⟨0, Nat.zero_le _, rfl, fun j hj => absurd hj (Nat.not_lt_zero _), Below.refl _ _⟩
  case round =>
    obtain ⟨k, hk, rfl, HN, hbel⟩ := hrel
    by_cases hlt : k < len
    · have hck := hc k hlt
      have hwk := hw k hlt
      have q1 : wr.cell? ⟨bl, off + k * 2, none⟩ = some (.int .i64 (b k)) := (hbel.cell (by exact hbl)).trans hck.1
      have q2 : wr.cell? ⟨bl, off + k * 2 + 1, none⟩ = some (.int .i64 (r k)) := (hbel.cell (by exact hbl)).trans hck.2
      clear hc hw hck
      obtain ⟨bk, hbk⟩ : ∃ bk, bk = b k := ⟨_, rfl⟩
      obtain ⟨rk, hrk⟩ : ∃ rk, rk = r k := ⟨_, rfl⟩
      rw [← hbk] at q1 hwk
      rw [← hrk] at q2
      have HBK := hide hbk
      have HRK := hide hrk
      clear hbk hrk
      have hB : ∀ o1 o2, Below w.heap.size w ((wr.alloc o1).alloc o2) := fun o1 o2 =>
        (hbel.alloc hbel.size o1).alloc (by have := hbel.size; simp; omega) o2
      have HR : Hid (∀ j, j < k → rightB (b j) (r j) = true) := HN
      have HF : Hid (rightB bk rk = false → rightsB b r len = false) := fun h => by
        refine decide_eq_false fun hh => ?_
        have := hh k hlt
        rw [← HBK.out, ← HRK.out, h] at this
        exact absurd this (by decide)
      by_cases h0 : bk < 0
      · have HZ : Hid (rightsB b r len = false) := HF.out (decide_eq_false (by omega))
        go_wp2_with fail
        refine (may1_no _ bk _ (by simp) h0).mono ?_
        rintro e w' ⟨rfl, rfl⟩
        go_wp2
        go_ret
        exact ⟨by rw [HZ.out]; rfl, hB _ _⟩
      · have h0' : 0 ≤ bk := by omega
        clear h0
        by_cases h1 : rk < 0
        · have HZ : Hid (rightsB b r len = false) := HF.out (decide_eq_false (by omega))
          go_wp2_with fail
          refine (may1_yes _ bk _ (by simp) h0' hwk).mono ?_
          rintro e w' ⟨rfl, rfl⟩
          go_wp2
          go_ret
          exact ⟨by rw [HZ.out]; rfl, hB _ _⟩
        · by_cases h2 : 1000000 < rk
          · have HZ : Hid (rightsB b r len = false) := HF.out (decide_eq_false (by omega))
            go_wp2_with fail
            refine (may1_yes _ bk _ (by simp) h0' hwk).mono ?_
            rintro e w' ⟨rfl, rfl⟩
            go_wp2
            go_ret
            exact ⟨by rw [HZ.out]; rfl, hB _ _⟩
          · go_wp2_with fail
            refine (may1_yes _ bk _ (by simp) h0' hwk).mono ?_
            rintro e w' ⟨rfl, rfl⟩
            go_wp2
            go_roundw
            case rel =>
              refine ⟨k + 1, by omega, by go_num, fun j hj => ?_, hB _ _⟩
              by_cases hjk : j < k
              · exact HN.out j hjk
              · have e : j = k := by omega
                subst e
                rw [← HBK.out, ← HRK.out]
                exact decide_eq_true (by omega)
            case measure => simp [intOf]; omega
    · have HZ : Hid (rightsB b r len = true) := decide_eq_true fun j hj => HN.out j (by omega)
      clear hc hw
      go_wp2
      go_ret
      exact ⟨by rw [HZ.out]; rfl, hbel⟩

theorem fees1 (bl : Nat) (b r : Int) (w : World) (hbl : bl < w.heap.size) (h1 : w.cell? ⟨bl, 0, none⟩ = some (.int .i64 b)) (h2 : w.cell? ⟨bl, 1, none⟩ = some (.int .i64 r)) (hb : b ≤ 9223372036854775807) :
    Calls Try.prog 105 #[.slice (some ⟨bl, 0, none⟩) 1 1] w fun e w' => e = .returned (.bool (rightB b r)) ∧ Below w.heap.size w w' := by
  refine (fees_row bl 0 1 1 (fun _ => b) (fun _ => r) w (by omega) hbl (fun k hk => ?_) (fun _ _ => hb)).mono fun e w' h => ?_
  · match k, hk with
    | 0, _ => exact ⟨h1, h2⟩
  · have e1 : rightsB (fun _ => b) (fun _ => r) 1 = rightB b r := by
      unfold rightsB
      cases hq : rightB b r
      · refine decide_eq_false fun hh => ?_
        have h0 : rightB b r = true := hh 0 (by omega)
        rw [hq] at h0
        exact absurd h0 (by decide)
      · exact decide_eq_true fun _ _ => hq
    rw [e1] at h
    exact h

set_option maxHeartbeats 400000 in
theorem fees_none (ao : Option Addr) (cap : Nat) (b r : Nat → Int) (w : World) :
    Calls Try.prog 105 #[.slice ao 0 cap] w fun e w' => e = .returned (.bool (rightsB b r 0)) ∧ Below w.heap.size w w' := by
  have HF : Hid (rightsB b r 0 = true) := decide_eq_true fun j hj => absurd hj (Nat.not_lt_zero _)
  go_enter Try.func105, Try.ntmps105
  go_wp2
  refine wp_loop_rounds 1 ?_
  rw [rounds_succ]
  go_wp2
  go_ret
  exact ⟨by rw [HF.out]; rfl, Below.refl _ _⟩
end Go.Proofs.Ytgnkcmmpbohafaa
