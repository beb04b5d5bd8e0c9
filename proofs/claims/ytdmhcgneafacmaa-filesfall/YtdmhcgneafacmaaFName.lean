/- Which names may be: contracts of mayLetter, mayName and of the document's Right over this seat's translation. -/
import Derived.Test.YtdmhcgneafacmaaFRng
namespace Go.Proofs.Ytdmhcgneafacmaa
open Go.RowKit
open Go.ChangeMaps (setBlock)
set_option linter.unusedVariables false
set_option linter.unusedSimpArgs false

/-- a letter that may be -/
def okL (c : Int) : Bool := (decide (97 ≤ c) && decide (c ≤ 122)) || (decide (48 ≤ c) && decide (c ≤ 57)) || c == 45
/-- a name that may be -/
def okN (s : ByteArray) : Bool := decide (1 ≤ s.size) && decide (s.size ≤ 32) && decide (∀ k, k < s.size → okL (s.get! k).toNat = true)

set_option maxHeartbeats 1000000 in
theorem letter_any (c : Int) (w : World) : Calls Try.prog 58 #[.int .i32 c] w fun e w' => e = .returned (.bool (okL c)) ∧ w' = w := by
  unfold okL
  by_cases h1 : 97 ≤ c <;> by_cases h2 : c ≤ 122 <;> by_cases h3 : 48 ≤ c <;> by_cases h4 : c ≤ 57 <;> by_cases h5 : c = 45
  all_goals try (exfalso; omega)
  all_goals
    have h5' : (c == 45) = decide (c = 45) := rfl
    simp only [h1, h2, h3, h4, h5, h5', decide_true, decide_false, Bool.and_true, Bool.and_false, Bool.or_true, Bool.or_false, Bool.true_and, Bool.false_and, Bool.true_or, Bool.false_or]
    go_enter Try.func58, Try.ntmps58
    go_wp2
    go_ret
    exact ⟨rfl, rfl⟩

theorem decode_low {s : ByteArray} {p : Nat} (h : (s.get! p).toNat < 128) : Utf8.decode s p = ((s.get! p).toNat, 1) := by
  unfold Utf8.decode
  simp only [Nat.add_zero]
  rw [if_pos h]
theorem decode_high {s : ByteArray} {p : Nat} (h : ¬ (s.get! p).toNat < 128) : 128 ≤ (Utf8.decode s p).1 := by
  unfold Utf8.decode
  simp only [Nat.add_zero]
  rw [if_neg h]
  repeat' split
  all_goals simp_all [Utf8.runeError]
  all_goals omega
theorem high_no {c : Nat} (h : 128 ≤ c) : okL c = false := by
  unfold okL
  simp
  omega

theorem okN_no {s : ByteArray} {k : Nat} (hk : k < s.size) (h : okL (s.get! k).toNat = false) : okN s = false := by
  unfold okN
  have : ¬ ∀ k, k < s.size → okL (s.get! k).toNat = true := fun e => by rw [e k hk] at h; cases h
  rw [decide_eq_false this, Bool.and_false]
theorem okN_yes {s : ByteArray} (h1 : 1 ≤ s.size) (h2 : s.size ≤ 32) (h : ∀ k, k < s.size → okL (s.get! k).toNat = true) : okN s = true := by
  unfold okN
  rw [decide_eq_true h, decide_eq_true h1, decide_eq_true h2]
  rfl
theorem okN_short {s : ByteArray} (h : ¬ 1 ≤ s.size) : okN s = false := by unfold okN; rw [decide_eq_false h]; rfl
theorem okN_long {s : ByteArray} (h : ¬ s.size ≤ 32) : okN s = false := by unfold okN; rw [decide_eq_false h, Bool.and_false]; rfl
theorem okN_le {s : ByteArray} (h : okN s = true) : 1 ≤ s.size ∧ s.size ≤ 32 := by
  unfold okN at h
  simp only [Bool.and_eq_true, decide_eq_true_eq] at h
  exact h.1

/-- an iterator over a name -/
def SIter (w : World) (r : Nat) (s : ByteArray) (p : Nat) : Prop := w.heap[r]? = some (.stringIter s p)
def sLeft (w : World) (r : Nat) : Nat :=
  match w.heap[r]? with
  | some (.stringIter s p) => s.size - p
  | _ => 0
theorem run_srange (w : World) (s : ByteArray) : (Instr.range 9 (.string s)).run Try.prog w = .ok (.pointer (some ⟨w.heap.size, 0, none⟩)) (w.alloc (.stringIter s 0)) := by
  simp [Instr.range, run_underlying Try.underlying9, Result.andThen]
theorem run_snext {w : World} {r : Nat} {s : ByteArray} {p : Nat} (h : SIter w r s p) (hp : p < s.size) (ty : TypeId) :
    (Instr.next (.pointer (some ⟨r, 0, none⟩)) true ty).run Try.prog w = .ok (.tuple #[.bool true, .int .i64 p, .int .i32 (Utf8.decode s p).1]) (setBlock w r (.stringIter s (p + (Utf8.decode s p).2))) := by
  have hs : ∀ o, (setObj r o).run Try.prog w = .ok () (setBlock w r o) := fun o => by
    simp [setObj, Sem.run, show w.heap[r]? = some (.stringIter s p) from h, setBlock]
  simp only [Instr.next, getObj, Sem.run_bind, Sem.run, show w.heap[r]? = some (.stringIter s p) from h, Result.andThen, hp, if_true, hs]
  rfl
theorem run_send {w : World} {r : Nat} {s : ByteArray} {p : Nat} (h : SIter w r s p) (hp : ¬ p < s.size) (ty : TypeId) :
    (Instr.next (.pointer (some ⟨r, 0, none⟩)) true ty).run Try.prog w = .ok (.tuple #[.bool false]) w := by
  simp only [Instr.next, getObj, Sem.run_bind, Sem.run, show w.heap[r]? = some (.stringIter s p) from h, Result.andThen, hp, if_false]
  rfl
theorem SIter.step {w : World} {r : Nat} {s : ByteArray} {p : Nat} (h : SIter w r s p) (q : Nat) : SIter (setBlock w r (.stringIter s q)) r s q ∧ ∀ B, B ≤ r → Below B w (setBlock w r (.stringIter s q)) := by
  have hlt := (Array.getElem?_eq_some_iff.1 h).1
  refine ⟨?_, fun B hB => ⟨rfl, rfl, rfl, by simp [setBlock], fun k hk => ?_⟩⟩
  · show (w.heap.setIfInBounds r _)[r]? = _
    simp [hlt]
  · show (w.heap.setIfInBounds r _)[k]? = _
    rw [Array.getElem?_setIfInBounds_ne (by omega)]

set_option maxHeartbeats 1000000 in
set_option maxRecDepth 100000 in
theorem name_any (s : ByteArray) (w : World) (hb : s.size ≤ 9223372036854775807) : Calls Try.prog 29 #[.string s] w fun e w' => e = .returned (.bool (okN s)) ∧ Hid (Below w.heap.size w w') := by
  by_cases h1 : 1 ≤ s.size
  · by_cases h2 : s.size ≤ 32
    · have hrun := run_srange w s
      have HI : Hid (SIter (w.alloc (.stringIter s 0)) w.heap.size s 0) := hide (MapKept.heap_alloc w _).1
      have HB := hide ((Below.refl w.heap.size w).alloc (Nat.le_refl _) (.stringIter s 0))
      go_enter Try.func29, Try.ntmps29
      go_wp2_with (at_range; refine wl_range rfl rfl rfl hrun ?_)
      go_frame
      clear hrun
      go_loopw [4] (fun _ wr => ∃ p, p ≤ s.size ∧ Hid (SIter wr w.heap.size s p) ∧ Hid (∀ k, k < p → okL (s.get! k).toNat = true) ∧ Hid (Below w.heap.size w wr)) (fun _ wr => sLeft wr w.heap.size)
      case atStart => exact ⟨0, Nat.zero_le _, HI, fun k hk => absurd hk (Nat.not_lt_zero _), HB⟩
      case round =>
        obtain ⟨p, hp, HIt, HO, HBl⟩ := hrel
        by_cases hlt : p < s.size
        · have hrun := run_snext HIt.out hlt 0
          have hst := HIt.out.step (p + (Utf8.decode s p).2)
          have HB2 := hide (HBl.out.trans (hst.2 _ (Nat.le_refl _)))
          have HL := hide (fun W => letter_any (Utf8.decode s p).1 W)
          cases hc : okL (Utf8.decode s p).1
          · have hno : okN s = false := okN_no hlt (by
              by_cases hlow : (s.get! p).toNat < 128
              · rw [decode_low hlow] at hc
                exact hc
              · exact high_no (by omega))
            have HNO := hide hno
            rw [hc] at HL
            generalize (Utf8.decode s p).1 = c at *
            clear hst hno HIt HO HBl HI HB
            go_wp2_with (first | (at_next; refine wl_next rfl rfl rfl hrun ?_) | (go_at_call 58; refine (HL.out _).mono ?_; rintro e w1 ⟨rfl, rfl⟩))
            go_ret
            exact ⟨by rw [HNO.out]; rfl, HB2⟩
          · have hlow : (s.get! p).toNat < 128 := by
              apply Classical.byContradiction
              intro hn
              rw [high_no (decode_high hn)] at hc
              cases hc
            have hw : (Utf8.decode s p).2 = 1 := by rw [decode_low hlow]
            have HO2 : Hid (∀ k, k < p + 1 → okL (s.get! k).toNat = true) := hide (fun k hk => by
              by_cases e : k = p
              · subst e
                rw [decode_low hlow] at hc
                exact hc
              · exact HO.out k (by omega))
            rw [hw] at hrun hst HB2
            have HI2 := hide hst.1
            have HM := hide (show sLeft (setBlock wr w.heap.size (.stringIter s (p + 1))) w.heap.size < sLeft wr w.heap.size by
              have a1 := hst.1
              have a2 := HIt.out
              unfold SIter at a1 a2
              unfold sLeft
              rw [a1, a2]
              show s.size - (p + 1) < s.size - p
              omega)
            rw [hc] at HL
            generalize (Utf8.decode s p).1 = c at *
            generalize setBlock wr w.heap.size (.stringIter s (p + 1)) = w9 at *
            clear hst hw HIt HO HBl HI HB hlow
            go_wp2_with (first | (at_next; refine wl_next rfl rfl rfl hrun ?_) | (go_at_call 58; refine (HL.out _).mono ?_; rintro e w1 ⟨rfl, rfl⟩))
            go_roundw
            case rel => exact ⟨p + 1, by omega, HI2, HO2, HB2⟩
            case measure => exact HM.out
        · have hrun := run_send HIt.out hlt 0
          have hyes : okN s = true := okN_yes h1 h2 (fun k hk => HO.out k (by omega))
          have HNO := hide hyes
          clear hyes
          go_wp2_with (at_next; refine wl_next rfl rfl rfl hrun ?_)
          go_ret
          exact ⟨by rw [HNO.out]; rfl, HBl⟩
    · rw [okN_long h2]
      go_enter Try.func29, Try.ntmps29
      go_wp2
      go_ret
      exact ⟨rfl, Below.refl _ _⟩
  · rw [okN_short h1]
    go_enter Try.func29, Try.ntmps29
    go_wp2
    go_ret
    exact ⟨rfl, Below.refl _ _⟩
end Go.Proofs.Ytdmhcgneafacmaa
