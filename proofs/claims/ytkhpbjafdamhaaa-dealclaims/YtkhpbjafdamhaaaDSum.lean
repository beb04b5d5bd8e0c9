/- The contract of amount.Sum over this seat's translation. -/
import Derived.Test.YtkhpbjafdamhaaaDAmt
namespace Go.Proofs.Ytkhpbjafdamhaaa
open Go.RowKit
set_option linter.unusedVariables false

/-- the first n numbers together -/
def sumP (z : Nat → Int) : Nat → Int
  | 0 => 0
  | n + 1 => sumP z n + z n
def sumN (z : Nat → Int) (n : Nat) : Int := if nnB z n = true then (if sumP z n ≤ 9223372036854775807 then sumP z n else 0) else 0
def sumE (z : Nat → Int) (n : Nat) : Int := if nnB z n = true then (if sumP z n ≤ 9223372036854775807 then 0 else 20) else 1

theorem sumP_nonneg (z : Nat → Int) (n : Nat) (h : ∀ k, k < n → 0 ≤ z k) : 0 ≤ sumP z n := by
  induction n with
  | zero => exact Int.le_refl _
  | succ n ih =>
    have h1 := ih fun k hk => h k (by omega); have h2 := h n (by omega)
    show 0 ≤ sumP z n + z n
    omega
theorem sumP_mono (z : Nat → Int) (k n : Nat) (hk : k ≤ n) (h : ∀ k, k < n → 0 ≤ z k) : sumP z k ≤ sumP z n := by
  induction n with
  | zero => rw [show k = 0 by omega]; exact Int.le_refl _
  | succ n ih =>
    by_cases e : k = n + 1
    · rw [e]; exact Int.le_refl _
    · have h1 := ih (by omega) fun k hk => h k (by omega)
      have h2 := h n (by omega)
      show sumP z k ≤ sumP z n + z n
      omega

theorem addN_ok {a b : Int} (h1 : 0 ≤ a) (h2 : 0 ≤ b) (h : a + b ≤ 9223372036854775807) : addN a b = a + b ∧ addE a b = 0 := by
  unfold addN addE
  rw [if_neg (by omega), if_neg (by omega), if_neg (by omega), if_neg (by omega)]; exact ⟨rfl, rfl⟩
theorem addN_over {a b : Int} (h1 : 0 ≤ a) (h2 : 0 ≤ b) (h : 9223372036854775807 < a + b) : addN a b = 0 ∧ addE a b = 20 := by
  unfold addN addE
  rw [if_neg (by omega), if_pos (by omega), if_neg (by omega), if_pos (by omega)]; exact ⟨rfl, rfl⟩
set_option maxHeartbeats 1000000 in
theorem sum_row (b off len cap : Nat) (z : Nat → Int) (w : World) (hb : len ≤ 9223372036854775807) (hbl : b < w.heap.size)
    (hc : ∀ k, k < len → w.cell? ⟨b, off + k, none⟩ = some (.int .i64 (z k))) (hw : ∀ k, k < len → z k ≤ 9223372036854775807) :
    Calls Try.prog 34 #[.slice (some ⟨b, off, none⟩) len cap] w fun e w' => e = .returned (.tuple #[.int .i64 (sumN z len), .int .i64 (sumE z len)]) ∧ Below w.heap.size w w' := by
  have HM := hide (may_row b off len cap z w hb hc hw)
  by_cases hn : nnB z len = true
  · have hnn : ∀ k, k < len → 0 ≤ z k := of_decide_eq_true hn
    rw [hn] at HM; have HN := hide hn; have HNN := hide hnn; have HC := hide hc; have HW := hide hw; clear hn hnn hc hw; go_enter Try.func34, Try.ntmps34
    go_wp2_with fail
    refine HM.out.mono ?_; rintro e w1 ⟨rfl, rfl⟩; clear HM
    go_wp2
    go_loopw [4, 14] (fun s i wr => ∃ k : Nat, k ≤ len ∧ i = .int .i64 k ∧ s = .int .i64 (sumP z k) ∧ Hid (sumP z k ≤ 9223372036854775807) ∧ Hid (Below w1.heap.size w1 wr)) (fun _ i _ => len - (intOf i).toNat)
    case atStart => exact ⟨0, Nat.zero_le _, rfl, rfl, by show (0 : Int) ≤ _; omega, Below.refl _ _⟩
    case round =>
      obtain ⟨k, hk, rfl, rfl, hs, hbel⟩ := hrel; have hs0 := sumP_nonneg z k fun j hj => HNN.out j (by omega); have hs1 := hs.out
      by_cases hlt : k < len
      · have q : wr.cell? ⟨b, off + k, none⟩ = some (.int .i64 (z k)) := (hbel.out.cell (by exact hbl)).trans (HC.out k hlt)
        have z0 := HNN.out k hlt; have z1 := HW.out k hlt; have hsucc := hide (show sumP z (k + 1) = sumP z k + z k from rfl); have hmono := hide (sumP_mono z (k + 1) len (by omega) HNN.out)
        generalize z k = x at *
        generalize sumP z k = s at *
        have HA := hide (fun w => add_any s x w (by omega) hs1 (by omega) z1)
        by_cases ho : s + x ≤ 9223372036854775807
        · rw [(addN_ok hs0 z0 ho).1, (addN_ok hs0 z0 ho).2] at HA
          go_wp2_with fail
          refine (HA.out _).mono ?_; rintro e w2 ⟨rfl, hb2⟩; have hB := hide (hbel.out.trans (hb2.mono hbel.out.size)); clear hb2
          go_wp2
          go_roundw
          case rel => exact ⟨k + 1, by omega, by go_num, by rw [hsucc.out], by rw [hsucc.out]; exact ho, hB⟩
          case measure => simp [intOf]; omega
        · rw [(addN_over hs0 z0 (by omega)).1, (addN_over hs0 z0 (by omega)).2] at HA
          have hbig := hide (show 9223372036854775807 < sumP z len by have := hmono.out; rw [hsucc.out] at this; omega); have e1 := hide (show sumN z len = 0 by unfold sumN; rw [if_pos HN.out, if_neg (by have := hbig.out; omega)]); have e2 := hide (show sumE z len = 20 by unfold sumE; rw [if_pos HN.out, if_neg (by have := hbig.out; omega)])
          go_wp2_with fail
          refine (HA.out _).mono ?_; rintro e w2 ⟨rfl, hb2⟩; have hB := hide (hbel.out.trans (hb2.mono hbel.out.size)); clear hb2
          go_wp2
          go_ret2
          exact ⟨by rw [e1.out, e2.out]; rfl, hB.out⟩
      · have e0 : k = len := by omega
        have e1 := hide (show sumN z len = sumP z k by unfold sumN; rw [if_pos HN.out, ← e0, if_pos hs1]); have e2 := hide (show sumE z len = 0 by unfold sumE; rw [if_pos HN.out, ← e0, if_pos hs1]); clear e0
        go_wp2
        go_ret2
        exact ⟨by rw [e1.out, e2.out]; rfl, hbel.out⟩
  · have hn' : nnB z len = false := by simpa using hn
    have e1 := hide (show sumN z len = 0 by unfold sumN; rw [if_neg hn]); have e2 := hide (show sumE z len = 1 by unfold sumE; rw [if_neg hn]); rw [hn'] at HM; clear hn hn' hc hw; go_enter Try.func34, Try.ntmps34
    go_wp2_with fail
    refine HM.out.mono ?_; rintro e w1 ⟨rfl, rfl⟩
    go_wp2
    go_ret2
    exact ⟨by rw [e1.out, e2.out]; rfl, Below.refl _ _⟩

end Go.Proofs.Ytkhpbjafdamhaaa
