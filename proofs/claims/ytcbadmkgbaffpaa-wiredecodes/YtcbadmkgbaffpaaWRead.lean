/- The document's read over this seat's translation. -/
import Derived.Test.YtcbadmkgbaffpaaWNum
namespace Go.Proofs.Ytcbadmkgbaffpaa
open Go.RowKit
set_option linter.unusedVariables false

def rdNumI (L : List Int) : Int := match rdNum L with
  | some n => n
  | none => -1
theorem val_high (z : Nat → Int) (hz : ∀ k, k < 8 → 0 ≤ z k ∧ z k ≤ 255) : val z 8 / 72057594037927936 = z 0 := by
  have := val_div z 8 hz 1 (by omega)
  rw [show (2 : Int) ^ (8 * (8 - 1)) = 72057594037927936 by decide] at this
  rw [this]
  show 0 * 256 + z 0 = z 0
  omega
set_option maxHeartbeats 1000000 in
theorem r6read_none (cap : Nat) (ao : Option Addr) (w : World) : Calls Try.prog 69 #[.slice ao 0 cap] w fun e w' => e = .returned (.int .i64 0) ∧ w' = w := by
  go_enter Try.func69, Try.ntmps69
  go_wp2
  refine wp_loop_rounds 1 ?_
  rw [rounds_succ]
  go_wp2
  go_ret
  exact ⟨rfl, rfl⟩
set_option maxHeartbeats 1000000 in
theorem r6read_long (cap n : Nat) (ao : Option Addr) (w : World) (h : 8 < n) (hn : n ≤ 9223372036854775807) : Calls Try.prog 69 #[.slice ao n cap] w fun e w' => e = .returned (.int .i64 (-1)) ∧ w' = w := by
  go_enter Try.func69, Try.ntmps69
  go_wp2
  go_ret
  exact ⟨rfl, rfl⟩
set_option maxHeartbeats 1000000 in
theorem r6read_zero (b o n cap : Nat) (w : World) (h : n ≤ 8) (h0 : 0 < n) (hc : w.cell? ⟨b, o, none⟩ = some (.int .u8 0)) : Calls Try.prog 69 #[.slice (some ⟨b, o, none⟩) n cap] w fun e w' => e = .returned (.int .i64 (-1)) ∧ w' = w := by
  have hi : (0 : Int) < (n : Int) := by omega
  have hi8 : (n : Int) ≤ 8 := by omega
  go_enter Try.func69, Try.ntmps69
  go_wp2
  go_ret
  exact ⟨rfl, rfl⟩
set_option maxHeartbeats 1000000 in
theorem r6read_great (b o cap : Nat) (z0 : Int) (w : World) (hne : z0 ≠ 0) (hg : 127 < z0) (hc : w.cell? ⟨b, o, none⟩ = some (.int .u8 z0)) : Calls Try.prog 69 #[.slice (some ⟨b, o, none⟩) 8 cap] w fun e w' => e = .returned (.int .i64 (-1)) ∧ w' = w := by
  have g0 : (z0 == 0) = false := beq_eq_false_iff_ne.2 hne
  go_enter Try.func69, Try.ntmps69
  go_wp2
  go_ret
  exact ⟨rfl, rfl⟩
set_option maxHeartbeats 1000000 in
theorem r6read_row (b o m cap : Nat) (z : Nat → Int) (w : World) (hm : m ≤ 8) (h0 : 0 < m) (hne : z 0 ≠ 0) (h8 : m = 8 → z 0 ≤ 127) (hv : ∀ k, k ≤ m → val z k ≤ 9223372036854775807) (hc : ∀ k, k < m → w.cell? ⟨b, o + k, none⟩ = some (.int .u8 (z k))) (hz : ∀ k, k < m → 0 ≤ z k ∧ z k ≤ 255) :
    Calls Try.prog 69 #[.slice (some ⟨b, o, none⟩) m cap] w fun e w' => e = .returned (.int .i64 (val z m)) ∧ w' = w := by
  have HC := hide hc
  have HZ := hide hz
  have HV := hide hv
  have q0 := hc 0 h0
  rw [Nat.add_zero] at q0
  have g0 : (z 0 == 0) = false := beq_eq_false_iff_ne.2 hne
  have hi : (0 : Int) < (m : Int) := by omega
  have hi8 : (m : Int) ≤ 8 := by omega
  clear hc hz hne hv
  have key : ∀ z0, (z0 == 0) = false → w.cell? ⟨b, o, none⟩ = some (.int .u8 z0) → (m = 8 → z0 ≤ 127) → Calls Try.prog 69 #[.slice (some ⟨b, o, none⟩) m cap] w fun e w' => e = .returned (.int .i64 (val z m)) ∧ w' = w := by
    intro z0 g0 q0 h8
    clear h0
    have fin : ∀ (P : Prop), P → P := fun _ h => h
    clear fin
    by_cases e8 : m = 8
    · have h127 := h8 e8
      subst e8
      clear h8
      go_enter Try.func69, Try.ntmps69
      go_wp2
      clear q0 g0 h127
      go_loop [3, 4] (fun x i => ∃ k : Nat, k ≤ 8 ∧ i = .int .i64 k ∧ x = .int .i64 (val z k)) (fun _ i => 8 - (intOf i).toNat)
      case atStart => exact ⟨0, Nat.zero_le _, rfl, rfl⟩
      case round =>
        obtain ⟨k, hk, rfl, rfl⟩ := hrel
        obtain ⟨x0, x1⟩ := val_bd z k fun j hj => HZ.out j (by omega)
        by_cases hlt : k < 8
        · have q := HC.out k hlt
          obtain ⟨c0, c1⟩ := HZ.out k hlt
          have x2 := HV.out (k + 1) (by omega)
          have hS := hide (show val z (k + 1) = val z k * 256 + z k from rfl)
          rw [hS.out] at x2
          clear x1
          have hck : (k : Int) < 8 := by omega
          generalize z k = c at *
          generalize val z k = x at *
          go_wp2
          go_round
          case rel => exact ⟨k + 1, by omega, by go_num, by rw [hS.out]⟩
          case measure => simp [intOf]; omega
        · have ek : k = 8 := by omega
          subst ek
          go_wp2
          go_ret
          exact ⟨rfl, rfl⟩
    · have g8 : ((m : Int) == 8) = false := beq_eq_false_iff_ne.2 (by omega)
      clear h8 e8
      go_enter Try.func69, Try.ntmps69
      go_wp2
      clear q0 g0 g8
      go_loop [3, 4] (fun x i => ∃ k : Nat, k ≤ m ∧ i = .int .i64 k ∧ x = .int .i64 (val z k)) (fun _ i => m - (intOf i).toNat)
      case atStart => exact ⟨0, Nat.zero_le _, rfl, rfl⟩
      case round =>
        obtain ⟨k, hk, rfl, rfl⟩ := hrel
        obtain ⟨x0, x1⟩ := val_bd z k fun j hj => HZ.out j (by omega)
        by_cases hlt : k < m
        · have q := HC.out k hlt
          obtain ⟨c0, c1⟩ := HZ.out k hlt
          have x2 := HV.out (k + 1) (by omega)
          have hS := hide (show val z (k + 1) = val z k * 256 + z k from rfl)
          rw [hS.out] at x2
          clear x1
          have hck : (k : Int) < (m : Int) := by omega
          generalize z k = c at *
          generalize val z k = x at *
          go_wp2
          go_round
          case rel => exact ⟨k + 1, by omega, by go_num, by rw [hS.out]⟩
          case measure => simp [intOf]; omega
        · have ek : k = m := by omega
          subst ek
          go_wp2
          go_ret
          exact ⟨rfl, rfl⟩
  exact key (z 0) g0 q0 h8

theorem r6read_any (ao : Option Addr) (cap : Nat) (L : List Int) (w : World) (hI : IsB w ao cap L) (hL : Bytes L) (hn : L.length ≤ 9223372036854775807) :
    Calls Try.prog 69 #[.slice ao L.length cap] w fun e w' => e = .returned (.int .i64 (rdNumI L)) ∧ w' = w := by
  by_cases h8 : 8 < L.length
  · exact (r6read_long cap L.length ao w h8 hn).mono fun e w' h => ⟨by rw [h.1, rdNumI, rdNum_long h8], h.2⟩
  by_cases h0 : L.length = 0
  · have e0 : L = [] := List.eq_nil_of_length_eq_zero h0
    subst e0
    exact (r6read_none cap ao w).mono fun e w' h => ⟨by rw [h.1, rdNumI, rdNum_some (by simp) (.inl rfl) (by decide)]; rfl, h.2⟩
  have hne : L ≠ [] := fun e => h0 (by rw [e]; rfl)
  obtain ⟨b, o, rfl, hc⟩ : ∃ b o, ao = some ⟨b, o, none⟩ ∧ ∀ k, k < L.length → w.cell? ⟨b, o + k, none⟩ = some (.int .u8 (L.getD k 0)) := by
    obtain ⟨b, o, h1, h2, h3⟩ := hI.at (by omega)
    exact ⟨b, o, h1, h3⟩
  have hz := getD_all hL
  by_cases hz0 : L.getD 0 0 = 0
  · have hc0 := hc 0 (by omega)
    rw [hz0, Nat.add_zero] at hc0
    exact (r6read_zero b o L.length cap w (by omega) (by omega) hc0).mono fun e w' h => ⟨by rw [h.1, rdNumI, rdNum_zero hne hz0], h.2⟩
  have small : ∀ k, k ≤ 7 → k ≤ L.length → val (fun k => L.getD k 0) k ≤ 9223372036854775807 := fun k hk hkl => by
    have h1 := (val_bd (fun k => L.getD k 0) k fun j hj => hz j (by omega)).2
    have h2 := pow_le k hk
    omega
  by_cases h127 : L.length = 8 ∧ 127 < L.getD 0 0
  · have hc0 := hc 0 (by omega)
    rw [Nat.add_zero] at hc0
    have hh : val (fun k => L.getD k 0) 8 / 72057594037927936 = L.getD 0 0 := val_high (fun k => L.getD k 0) (fun k hk => hz k (by omega))
    rw [h127.1]
    refine (r6read_great b o cap _ w hz0 h127.2 hc0).mono fun e w' h => ⟨by rw [h.1, rdNumI, rdNum_great (by rw [h127.1]; have := h127.2; omega)], h.2⟩
  · have hv : ∀ k, k ≤ L.length → val (fun k => L.getD k 0) k ≤ 9223372036854775807 := fun k hk => by
      by_cases h7 : k ≤ 7
      · exact small k h7 hk
      · have e8 : k = 8 := by omega
        subst e8
        have hh : val (fun k => L.getD k 0) 8 / 72057594037927936 = L.getD 0 0 := val_high (fun k => L.getD k 0) (fun k hk => hz k (by omega))
        have : L.getD 0 0 ≤ 127 := by
          by_cases h : L.getD 0 0 ≤ 127
          · exact h
          · exact absurd ⟨by omega, by omega⟩ h127
        omega
    refine (r6read_row b o L.length cap (fun k => L.getD k 0) w (by omega) (by omega) hz0 (fun e8 => ?_) hv hc hz).mono fun e w' h => ⟨?_, h.2⟩
    · by_cases h : L.getD 0 0 ≤ 127
      · exact h
      · exact absurd ⟨e8, by omega⟩ h127
    · rw [h.1, rdNumI, rdNum_some (by omega) (.inr hz0) (hv _ (Nat.le_refl _))]
end Go.Proofs.Ytcbadmkgbaffpaa
