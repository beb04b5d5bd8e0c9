/- Contracts of bigsize.rising, streamSize and Encode over this seat's translation. -/
import Derived.Test.YtcbadmkgbaffpaaBigRecs
import Derived.BigQuiet
import Derived.Deep.RegionWith
import Derived.Deep.QuietTactic
namespace Go.Proofs.Ytcbadmkgbaffpaa
open Go.RowKit
set_option linter.unusedVariables false

/-- each type is above the one ahead -/
def risB (ty : Nat → Int) (n : Nat) : Bool := decide (∀ k, k < n - 1 → ty k < ty (k + 1))

set_option maxHeartbeats 1000000 in
theorem rising_row (b off len cap : Nat) (ty : Nat → Int) (ao : Nat → Option Addr) (cp : Nat → Nat) (L : Nat → List Int) (w : World) (hR : Recs w b off len ty ao cp L) (hl : len ≤ 4398046511104) :
    Calls Try.prog 37 #[.slice (some ⟨b, off, none⟩) len cap] w fun e w' => e = .returned (.bool (risB ty len)) ∧ Below w.heap.size w w' := by
  have HR := hide hR
  clear hR
  by_cases h0 : len = 0
  · subst h0
    have HZ := hide (show risB ty 0 = true from decide_eq_true fun k hk => by omega)
    go_enter Try.func37, Try.ntmps37
    go_wp2
    refine wp_loop_rounds 1 ?_
    rw [rounds_succ]
    go_wp2
    go_ret
    exact ⟨by rw [HZ.out]; rfl, Below.refl _ _⟩
  · go_enter Try.func37, Try.ntmps37
    go_wp2
    go_loopw [3] (fun i wr => ∃ k : Nat, k + 1 ≤ len ∧ i = .int .i64 ((k : Int) + 1) ∧ Hid (∀ j, j < k → ty j < ty (j + 1)) ∧ Hid (Below w.heap.size w wr)) (fun i _ => len - (intOf i).toNat)
    case atStart => exact ⟨0, by omega, rfl, fun j hj => absurd hj (Nat.not_lt_zero _), Below.refl _ _⟩
    case round =>
      obtain ⟨k, hk, rfl, HN, HB⟩ := hrel
      by_cases hlt : k + 1 < len
      · have R := HR.out.below HB.out
        have q0 : wr.cell? ⟨b, off + k * 2, none⟩ = some (.int .u64 (ty k)) := R.type k (by omega)
        have q1 : wr.cell? ⟨b, off + (k + 1) * 2, none⟩ = some (.int .u64 (ty (k + 1))) := R.type (k + 1) hlt
        clear R
        have t1 : ((k : Int) + 1).toNat = k + 1 := by omega
        have p1 : (k : Int) + 1 < (len : Int) := by omega
        have p0 : (k : Int) < (len : Int) := by omega
        by_cases hc : ty (k + 1) ≤ ty k
        · have HZ := hide (show risB ty len = false from decide_eq_false fun h => by have := h k (by omega); omega)
          generalize ty k = x at *
          generalize ty (k + 1) = y at *
          go_wp2
          go_quiet (fail)
          go_wp2
          go_ret
          exact ⟨by rw [HZ.out]; rfl, below_drewN HB.out _⟩
        · have HS := hide (show ∀ j, j < k + 1 → ty j < ty (j + 1) from fun j hj => by
            by_cases e : j < k
            · exact HN.out j e
            · have e : j = k := by omega
              subst e; omega)
          generalize ty k = x at q0 hc
          generalize ty (k + 1) = y at q1 hc
          go_wp2
          go_quiet (fail)
          go_wp2
          go_roundw
          case rel => exact ⟨k + 1, by omega, by go_num, HS, below_drewN HB.out _⟩
          case measure => simp [intOf]; omega
      · have HZ := hide (show risB ty len = true from decide_eq_true fun j hj => HN.out j (by omega))
        go_wp2
        go_ret
        exact ⟨by rw [HZ.out]; rfl, HB.out⟩

/-- the bytes of one record, and of the first n -/
def recB (t : Int) (L : List Int) : List Int := numB t ++ numB L.length ++ L
def encL (ty : Nat → Int) (L : Nat → List Int) : Nat → List Int
  | 0 => []
  | n + 1 => encL ty L n ++ recB (ty n) (L n)
theorem recB_length (t : Int) (L : List Int) : ((recB t L).length : Int) = sizeN t + sizeN L.length + L.length := by
  unfold recB
  rw [List.length_append, List.length_append, Int.natCast_add, Int.natCast_add, numB_length, numB_length]
theorem encL_le (ty : Nat → Int) (L : Nat → List Int) (n : Nat) (h : ∀ k, k < n → (L k).length ≤ 140737488351232) : (encL ty L n).length ≤ n * 140737488351250 := by
  induction n with
  | zero => simp [encL]
  | succ n ih =>
    have h1 := ih fun k hk => h k (by omega)
    have h2 := h n (by omega)
    have h3 := numB_le (ty n)
    have h4 := numB_le ((L n).length : Int)
    show (encL ty L n ++ recB (ty n) (L n)).length ≤ _
    unfold recB
    rw [List.length_append, List.length_append, List.length_append]
    omega

set_option maxHeartbeats 1000000 in
theorem ssize_row (b off len cap : Nat) (ty : Nat → Int) (ao : Nat → Option Addr) (cp : Nat → Nat) (L : Nat → List Int) (w : World) (hR : Recs w b off len ty ao cp L) (hl : len ≤ 64) (hL : ∀ k, k < len → (L k).length ≤ 140737488351232) (ht : ∀ k, k < len → 0 ≤ ty k) :
    Calls Try.prog 38 #[.slice (some ⟨b, off, none⟩) len cap] w fun e w' => e = .returned (.int .i64 ((encL ty L len).length : Int)) ∧ Below w.heap.size w w' := by
  have HR := hide hR
  have HL := hide hL
  have HT := hide ht
  clear hR hL ht
  go_enter Try.func38, Try.ntmps38
  go_wp2
  go_loopw [3, 8] (fun s i wr => ∃ k : Nat, k ≤ len ∧ i = .int .i64 k ∧ s = .int .i64 ((encL ty L k).length : Int) ∧ Hid (Below w.heap.size w wr)) (fun _ i _ => len - (intOf i).toNat)
  case atStart => exact ⟨0, Nat.zero_le _, rfl, rfl, Below.refl _ _⟩
  case round =>
    obtain ⟨k, hk, rfl, rfl, HB⟩ := hrel
    by_cases hlt : k < len
    · have R := HR.out.below HB.out
      have q0 := R.type k hlt
      have q1 := R.value k hlt
      clear R
      have t0 := HT.out k hlt
      have l1 := HL.out k hlt
      have hm := encL_le ty L k fun j hj => HL.out j (by omega)
      have hS := hide (show ((encL ty L (k + 1)).length : Int) = (encL ty L k).length + (sizeN (ty k) + sizeN (L k).length + (L k).length) by
        show ((encL ty L k ++ recB (ty k) (L k)).length : Int) = _
        rw [List.length_append, Int.natCast_add, recB_length])
      have HB2 := hide (fun o => HB.out.alloc HB.out.size o)
      have m2 : (encL ty L k).length ≤ 9007199254740992 := by omega
      clear hm
      generalize (encL ty L k).length = s at *
      generalize ty k = x at *
      generalize (L k).length = n at *
      have HX := hide (fun w => size_any x w t0)
      have HN := hide (fun w => size_any (n : Int) w (by omega))
      have sx : 1 ≤ sizeN x ∧ sizeN x ≤ 9 := by unfold sizeN; (repeat' split) <;> omega
      have sn : 1 ≤ sizeN (n : Int) ∧ sizeN (n : Int) ≤ 9 := by unfold sizeN; (repeat' split) <;> omega
      generalize sizeN x = A at *
      generalize sizeN (n : Int) = C at *
      go_wp2
      go_quiet ((first | (go_at_call_of 70 (Value.int IntKind.u64 x); exact Calls.quiet_of_same (HX.out _)) | (go_at_call_of 70 (Value.int IntKind.u64 (n : Int)); exact Calls.quiet_of_same (HN.out _))))
      go_wp2
      go_roundw
      case rel => exact ⟨k + 1, by omega, by go_num, by rw [hS.out], below_drewN (HB2.out _) _⟩
      case measure => simp [intOf]; omega
    · have ek : k = len := by omega
      subst ek
      go_wp2
      go_ret
      exact ⟨rfl, HB.out⟩
end Go.Proofs.Ytcbadmkgbaffpaa
