/- Which names may be, by the document's Right, over this seat's translation. -/
import Derived.Test.YtdmhcgneafacmaaFName
namespace Go.Proofs.Ytdmhcgneafacmaa
open Go.RowKit
set_option linter.unusedVariables false
set_option linter.unusedSimpArgs false
set_option maxRecDepth 100000

set_option maxHeartbeats 4000000 in
theorem right_any (s : ByteArray) (w : World) (hb : s.size ≤ 9223372036854775807) : Calls Try.prog 24 #[.string s] w fun e w' => e = .returned (.bool (okN s)) ∧ w' = w := by
  have hix : ∀ (k : Nat), k < s.size → ∀ W, (Instr.index 9 (.string s) (.int .i64 k)).run Try.prog W = .ok (.int .u8 ((s.get! k).toNat : Int)) W := fun k hk W => by
    have h1 : (k : Int) < (s.size : Int) := by omega
    have h2 : s.get! k = s[k] := by
      cases s
      exact getElem!_pos _ k hk
    rw [h2]
    go_simp
  go_enter Try.func24, Try.ntmps24
  go_wp2
  go_loopw [3] (fun i wr => ∃ k : Nat, k ≤ s.size ∧ i = .int .i64 k ∧ wr = w ∧ Hid (∀ j, j < k → okL (s.get! j).toNat = true)) (fun i _ => s.size - (intOf i).toNat)
  case atStart => exact ⟨0, Nat.zero_le _, rfl, rfl, fun j hj => absurd hj (Nat.not_lt_zero _)⟩
  case round =>
    obtain ⟨k, hk, rfl, rfl, HO⟩ := hrel
    by_cases hlt : k < s.size
    · have hx := hix k hlt
      obtain ⟨c, hc⟩ : ∃ c : Int, ((s.get! k).toNat : Int) = c := ⟨_, rfl⟩
      have HC := hide hc
      have hlt' : (k : Int) < (s.size : Int) := by omega
      rw [hc] at hx
      clear hix hc
      cases ho : okL c
      · have HNO := hide (okN_no hlt (by rw [HC.out]; exact ho))
        have hcs : (97 ≤ c ∧ ¬ c ≤ 122 ∧ 48 ≤ c ∧ ¬ c ≤ 57 ∧ ¬ c = 45) ∨ (¬ 97 ≤ c ∧ 48 ≤ c ∧ ¬ c ≤ 57 ∧ ¬ c = 45) ∨ (¬ 97 ≤ c ∧ ¬ 48 ≤ c ∧ ¬ c = 45) := by
          unfold okL at ho
          simp at ho
          omega
        rcases hcs with ⟨h1, h2, h3, h4, h5⟩ | ⟨h1, h3, h4, h5⟩ | ⟨h1, h3, h5⟩
        all_goals
          have h5' : (c == 45) = false := by simp [h5]
          clear ho
          go_wp2
          go_ret
          exact ⟨by rw [HNO.out]; rfl, rfl⟩
      · have HO2 : Hid (∀ j, j < k + 1 → okL (s.get! j).toNat = true) := hide (fun j hj => by
          by_cases e : j = k
          · rw [e, HC.out]
            exact ho
          · exact HO.out j (by omega))
        have hcs : (97 ≤ c ∧ c ≤ 122) ∨ (¬ 97 ≤ c ∧ 48 ≤ c ∧ c ≤ 57) ∨ (¬ 97 ≤ c ∧ ¬ 48 ≤ c ∧ c = 45) := by
          unfold okL at ho
          simp at ho
          omega
        rcases hcs with ⟨h1, h2⟩ | ⟨h1, h3, h4⟩ | ⟨h1, h3, h5⟩
        all_goals
          clear ho
          go_wp2
          go_roundw
          case rel => exact ⟨k + 1, by omega, by go_num, trivial, HO2⟩
          case measure => simp [intOf]; omega
    · have ek : k = s.size := by omega
      subst ek
      by_cases h1 : 1 ≤ s.size
      · by_cases h2 : s.size ≤ 32
        · have HNO := hide (okN_yes h1 h2 HO.out)
          go_wp2
          go_ret
          exact ⟨by rw [HNO.out]; first | (simp; omega) | simp, rfl⟩
        · have HNO := hide (okN_long h2)
          go_wp2
          go_ret
          exact ⟨by rw [HNO.out]; first | (simp; omega) | simp, rfl⟩
      · have HNO := hide (okN_short h1)
        go_wp2
        go_ret
        exact ⟨by rw [HNO.out]; first | (simp; omega) | simp, rfl⟩
end Go.Proofs.Ytdmhcgneafacmaa
