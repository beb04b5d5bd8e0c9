/- SameRecords of the same records, over this seat's translation. -/
import Derived.Test.YtclimopeejkdbaaBigEnc
import Derived.Deep.RegionHeld3
namespace Go.Proofs.Ytclimopeejkdbaa
open Go.RowKit
set_option linter.unusedVariables false

set_option maxHeartbeats 400000 in
theorem same_none (ao ao' : Option Addr) (cap cap' : Nat) (w : World) :
    Calls Try.prog 18 #[.slice ao 0 cap, .slice ao' 0 cap'] w fun e w' => e = .returned (.bool true) ∧ w' = w := by
  go_enter Try.func18, Try.ntmps18
  go_wp2
  refine wp_loop_rounds 1 ?_
  rw [rounds_succ]
  go_wp2
  go_ret
  exact ⟨rfl, rfl⟩

set_option maxHeartbeats 1000000 in
theorem same_row (b off b' off' len cap cap' : Nat) (ty ty' : Nat → Int) (ao ao' : Nat → Option Addr) (cp cp' : Nat → Nat) (L L' : Nat → List Int) (w : World) (hR : Recs w b off len ty ao cp L) (hR' : Recs w b' off' len ty' ao' cp' L') (hl : len ≤ 4398046511104) (ht : ∀ k, k < len → ty' k = ty k) (hL : ∀ k, k < len → L' k = L k) :
    Calls Try.prog 18 #[.slice (some ⟨b, off, none⟩) len cap, .slice (some ⟨b', off', none⟩) len cap'] w fun e w' => e = .returned (.bool true) ∧ Below w.heap.size w w' := by
  have HR := hide hR
  have HR' := hide hR'
  have HT := hide ht
  have HL := hide hL
  clear hR hR' ht hL
  go_enter Try.func18, Try.ntmps18
  go_wp2
  go_loopw [5] (fun i wr => ∃ k : Nat, k ≤ len ∧ i = .int .i64 k ∧ Hid (Below w.heap.size w wr)) (fun i _ => len - (intOf i).toNat)
  case atStart => exact ⟨0, Nat.zero_le _, rfl, Below.refl _ _⟩
  case round =>
    obtain ⟨k, hk, rfl, HB⟩ := hrel
    by_cases hlt : k < len
    · have R := HR.out.below HB.out
      have R' := HR'.out.below HB.out
      have q0 := R.type k hlt
      have q1 := R'.type k hlt
      have q2 := R.value k hlt
      have q3 := R'.value k hlt
      have I2 := R.bytes k hlt
      have I3 := R'.bytes k hlt
      rw [HT.out k hlt] at q1
      rw [HL.out k hlt] at q3 I3
      have cv2 := conv_any I2
      have cv3 := conv_any I3
      have HI2 := hide I2
      have HI3 := hide I3
      clear R R' I2 I3
      generalize ty k = x at *
      generalize L k = V at *
      have hck : (k : Int) < (len : Int) := by omega
      go_wp2
      have cvd2 : (convert 23 9 (.slice (ao k) V.length (cp k))).run Try.prog wr.drew = .ok (.string (strOfNums V)) wr.drew := conv_any (HI2.out.below ((Below.refl _ _).drew))
      have cvd3 : (convert 23 9 (.slice (ao' k) V.length (cp' k))).run Try.prog wr.drew = .ok (.string (strOfNums V)) wr.drew := conv_any (HI3.out.below ((Below.refl _ _).drew))
      have q0d : wr.drew.cell? ⟨b, off + k * 2, none⟩ = some (.int .u64 x) := q0
      have q1d : wr.drew.cell? ⟨b', off' + k * 2, none⟩ = some (.int .u64 x) := q1
      have q2d : wr.drew.cell? ⟨b, off + k * 2 + 1, none⟩ = some (.slice (ao k) V.length (cp k)) := q2
      have q3d : wr.drew.cell? ⟨b', off' + k * 2 + 1, none⟩ = some (.slice (ao' k) V.length (cp' k)) := q3
      go_region_held3 (fun w' => w'.cell? ⟨b, off + k * 2, none⟩ = some (.int .u64 x) ∧ w'.cell? ⟨b', off' + k * 2, none⟩ = some (.int .u64 x) ∧ w'.cell? ⟨b, off + k * 2 + 1, none⟩ = some (.slice (ao k) V.length (cp k)) ∧ w'.cell? ⟨b', off' + k * 2 + 1, none⟩ = some (.slice (ao' k) V.length (cp' k)) ∧ (convert 23 9 (.slice (ao k) V.length (cp k))).run Try.prog w' = .ok (.string (strOfNums V)) w' ∧ (convert 23 9 (.slice (ao' k) V.length (cp' k))).run Try.prog w' = .ok (.string (strOfNums V)) w') (exact ⟨by assumption, by assumption, by assumption, by assumption, by assumption, by assumption⟩) (fail)
      all_goals go_wp2
      all_goals go_roundw
      all_goals first
        | exact ⟨k + 1, by omega, by go_num, HB.out.drew⟩
        | (simp [intOf]; omega)
    · go_wp2
      go_ret
      exact ⟨rfl, HB.out⟩
end Go.Proofs.Ytclimopeejkdbaa
