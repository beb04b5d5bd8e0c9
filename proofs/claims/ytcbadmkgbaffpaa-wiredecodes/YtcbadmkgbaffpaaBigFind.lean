/- Contracts of bytes.Clone and bigsize.Find over this seat's translation. -/
import Derived.Test.YtcbadmkgbaffpaaBigLives
import Derived.Test.YtcbadmkgbaffpaaBigRow
import Derived.Deep.RegionWith
namespace Go.Proofs.Ytcbadmkgbaffpaa
open Go.RowKit
set_option linter.unusedVariables false

set_option maxHeartbeats 1000000 in
theorem clone_some (x : Addr) (cap : Nat) (L : List Int) (w : World) (hI : IsB w (some x) cap L) (hl : L.length ≤ 140737488355328) :
    Calls Try.prog 55 #[.slice (some x) L.length cap] w fun e w' => ∃ ao cp, e = .returned (.slice ao L.length cp) ∧ Hid (IsB w' ao cp L) ∧ Below w.heap.size w w' := by
  have HI := hide hI
  obtain ⟨len, hlen⟩ : ∃ len, L.length = len := ⟨_, rfl⟩
  rw [hlen] at hl ⊢
  have HL := hide hlen
  clear hI hlen
  have hne := fun w' => Lib.run_eql_slice_nil (P := Try.prog) w' 23 5 (some x) len cap 0 0 Try.underlying23
  go_enter Try.func55, Try.ntmps55
  go_wp2_with (at_builtin; refine wpList_append_ownx rfl (.tmp 5) (.tmp 6) rfl w.heap.size _ 0 [] rfl (own_empty w) (some x) len cap L rfl HL.out ?c1 (by omega) (by simp) ?_)
  case c1 => exact HI.out.below ((Below.refl _ _).alloc (Nat.le_refl _) _)
  intro v1 w1 ho hg
  have B1 := ((Below.refl w.heap.size w).alloc (Nat.le_refl _) (.cells #[] 5)).grown hg (by simp) (fun k hk => by cases hk; exact Nat.le_refl _)
  have HB1 := hide B1
  rw [← HL.out] at ho
  obtain ⟨ao1, cp1, hv1, hO1, _, _⟩ := own_isB ho
  rw [HL.out] at hv1
  have HO1 := hide hO1
  rw [hv1]
  clear ho hg B1 hO1 hv1
  go_wp2
  go_ret
  exact ⟨ao1, cp1, rfl, HO1, HB1.out⟩

set_option maxHeartbeats 400000 in
theorem clone_none (w : World) :
    Calls Try.prog 55 #[.slice none 0 0] w fun e w' => e = .returned (.slice none 0 0) ∧ w' = w := by
  have hne := fun w' => Lib.run_eql_slice_nil (P := Try.prog) w' 23 5 none 0 0 0 0 Try.underlying23
  go_enter Try.func55, Try.ntmps55
  go_wp2
  go_ret
  exact ⟨rfl, rfl⟩

/-- Clone: the same bytes in new memory -/
theorem clone_any (ao : Option Addr) (cap : Nat) (L : List Int) (w : World) (hI : IsB w ao cap L) (hl : L.length ≤ 140737488355328) :
    Calls Try.prog 55 #[.slice ao L.length cap] w fun e w' => ∃ a c, e = .returned (.slice a L.length c) ∧ Hid (IsB w' a c L) ∧ Below w.heap.size w w' := by
  rcases hI with ⟨rfl, rfl, rfl⟩ | ⟨x, rfl, hc⟩
  · refine (clone_none w).mono fun e w' h => ?_
    obtain ⟨rfl, rfl⟩ := h
    exact ⟨none, 0, rfl, .inl ⟨rfl, rfl, rfl⟩, Below.refl _ _⟩
  · exact clone_some x cap L w (.inr ⟨x, rfl, hc⟩) hl

/-- records that lie in memory: of each its type, its value's slice and bytes -/
structure Recs (w : World) (b off len : Nat) (ty : Nat → Int) (ao : Nat → Option Addr) (cp : Nat → Nat) (L : Nat → List Int) : Prop where
  lt : b < w.heap.size
  type : ∀ k, k < len → w.cell? ⟨b, off + k * 2, none⟩ = some (.int .u64 (ty k))
  value : ∀ k, k < len → w.cell? ⟨b, off + k * 2 + 1, none⟩ = some (.slice (ao k) (L k).length (cp k))
  bytes : ∀ k, k < len → IsB w (ao k) (cp k) (L k)

theorem Recs.below {w w' : World} {b off len : Nat} {ty : Nat → Int} {ao : Nat → Option Addr} {cp : Nat → Nat} {L : Nat → List Int} (h : Recs w b off len ty ao cp L) (hb : Below w.heap.size w w') : Recs w' b off len ty ao cp L :=
  ⟨Nat.lt_of_lt_of_le h.lt hb.size, fun k hk => (hb.cell (by exact h.lt)).trans (h.type k hk), fun k hk => (hb.cell (by exact h.lt)).trans (h.value k hk), fun k hk => (h.bytes k hk).below hb⟩

set_option maxHeartbeats 1000000 in
/-- Find where there is none -/
theorem find_no (b off len cap : Nat) (ty : Nat → Int) (ao : Nat → Option Addr) (cp : Nat → Nat) (L : Nat → List Int) (t : Int) (w : World) (hR : Recs w b off len ty ao cp L) (hl : len ≤ 9223372036854775807) (hno : ∀ k, k < len → ty k ≠ t) :
    Calls Try.prog 33 #[.slice (some ⟨b, off, none⟩) len cap, .int .u64 t] w fun e w' => e = .returned (.tuple #[.slice none 0 0, .bool false]) ∧ Below w.heap.size w w' := by
  have HR := hide hR
  have HN := hide hno
  clear hR hno
  go_enter Try.func33, Try.ntmps33
  go_wp2
  go_loopw [10] (fun i wr => ∃ k : Nat, k ≤ len ∧ i = .int .i64 k ∧ Hid (Below w.heap.size w wr)) (fun i _ => len - (intOf i).toNat)
  case atStart => exact ⟨0, Nat.zero_le _, rfl, Below.refl _ _⟩
  case round =>
    obtain ⟨k, hk, rfl, HB⟩ := hrel
    by_cases hlt : k < len
    · have q0 := (HR.out.below HB.out).type k hlt
      have q1 := (HR.out.below HB.out).value k hlt
      have g : (ty k == t) = false := beq_eq_false_iff_ne.2 (HN.out k hlt)
      have HB2 := hide (fun o => HB.out.alloc HB.out.size o)
      generalize ty k = x at *
      generalize (L k).length = n at *
      go_wp2
      go_roundw
      case rel => exact ⟨k + 1, by omega, by go_num, HB2.out _⟩
      case measure => simp [intOf]; omega
    · go_wp2
      go_ret2
      exact ⟨rfl, HB.out⟩

set_option maxHeartbeats 1000000 in
/-- Find where k0 is the first -/
theorem find_yes (b off len cap k0 : Nat) (ty : Nat → Int) (ao : Nat → Option Addr) (cp : Nat → Nat) (L : Nat → List Int) (t : Int) (w : World) (hR : Recs w b off len ty ao cp L) (hl : len ≤ 9223372036854775807) (hk0 : k0 < len) (hyes : ty k0 = t) (hno : ∀ k, k < k0 → ty k ≠ t) (hlen : (L k0).length ≤ 140737488355328) :
    Calls Try.prog 33 #[.slice (some ⟨b, off, none⟩) len cap, .int .u64 t] w fun e w' => ∃ a c, e = .returned (.tuple #[.slice a (L k0).length c, .bool true]) ∧ Hid (IsB w' a c (L k0)) ∧ Below w.heap.size w w' := by
  have HR := hide hR
  have HN := hide hno
  have HY := hide hyes
  clear hR hno hyes
  go_enter Try.func33, Try.ntmps33
  go_wp2
  go_loopw [10] (fun i wr => ∃ k : Nat, k ≤ k0 ∧ i = .int .i64 k ∧ Hid (Below w.heap.size w wr)) (fun i _ => len - (intOf i).toNat)
  case atStart => exact ⟨0, Nat.zero_le _, rfl, Below.refl _ _⟩
  case round =>
    obtain ⟨k, hk, rfl, HB⟩ := hrel
    have hltl : k < len := by omega
    have R := HR.out.below HB.out
    have q0 := R.type k hltl
    have q1 := R.value k hltl
    have HI := hide (R.bytes k hltl)
    have HB2 := hide (fun o => HB.out.alloc HB.out.size o)
    have hz := HB.out.size
    clear R
    by_cases hlt : k < k0
    · have g : (ty k == t) = false := beq_eq_false_iff_ne.2 (HN.out k hlt)
      generalize ty k = x at *
      generalize (L k).length = n at *
      go_wp2
      go_roundw
      case rel => exact ⟨k + 1, by omega, by go_num, HB2.out _⟩
      case measure => simp [intOf]; omega
    · have ek : k = k0 := by omega
      subst ek
      have g : (ty k == t) = true := by rw [HY.out]; exact beq_self_eq_true _
      have HC := hide (fun w (h : IsB w (ao k) (cp k) (L k)) => clone_any (ao k) (cp k) (L k) w h hlen)
      generalize ty k = x at *
      go_wp2_with fail
      refine (HC.out _ (HI.out.below ((Below.refl _ _).alloc (Nat.le_refl _) _))).mono ?_
      rintro e w1 ⟨a, c, rfl, hI, hb⟩
      have HB3 := hide ((HB2.out _).trans (hb.mono (by simp; omega)))
      clear hb
      go_wp2
      go_ret2
      exact ⟨a, c, rfl, hI, HB3.out⟩

set_option maxHeartbeats 400000 in
theorem find_none (ao : Option Addr) (cap : Nat) (t : Int) (w : World) :
    Calls Try.prog 33 #[.slice ao 0 cap, .int .u64 t] w fun e w' => e = .returned (.tuple #[.slice none 0 0, .bool false]) ∧ w' = w := by
  go_enter Try.func33, Try.ntmps33
  go_wp2
  refine wp_loop_rounds 1 ?_
  rw [rounds_succ]
  go_wp2
  go_ret2
  exact ⟨rfl, rfl⟩
end Go.Proofs.Ytcbadmkgbaffpaa
