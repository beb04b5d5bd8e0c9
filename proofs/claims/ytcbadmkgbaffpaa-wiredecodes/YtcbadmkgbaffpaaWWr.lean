/- wire's written over this seat's translation: the deeds that set a record's value. -/
import Derived.Test.YtcbadmkgbaffpaaWFld
import Derived.Test.YtcbadmkgbaffpaaWNum
namespace Go.Proofs.Ytcbadmkgbaffpaa
open Go.RowKit
set_option linter.unusedVariables false

theorem hmf : ∀ (fn : Fn) (first cap : Array Value) (w : World), (Instr.makeFunc fn first cap).run Try.prog w = .ok (.func fn first cap) w := fun _ _ _ _ => rfl

theorem undrew {w w1 : World} (h : Below w.drew.heap.size w.drew w1) : Below w.heap.size w w1 := ⟨h.os, h.tape, h.output, h.size, h.block⟩

set_option maxHeartbeats 1000000 in
theorem written1 (b o rb ro vb n : Nat) (old l m : Value) (w : World) (h : w.cell? ⟨b, o, none⟩ = some (.int .i64 n)) (hv : w.cell? ⟨vb, 0, none⟩ = some (.pointer (some ⟨rb, ro, none⟩))) (hr : w.cell? ⟨rb, ro, none⟩ = some old) (hf : w.frozen? ⟨rb, ro, none⟩ = false) (hn : n ≤ 9223372036854775807) :
    Calls Try.prog 40 #[.pointer (some ⟨b, o, none⟩), l, m, .pointer (some ⟨vb, 0, none⟩)] w fun e w' => e = .returned (.bool true) ∧ ∃ W v, w' = W.setCell ⟨rb, ro, none⟩ v ∧ Hid (W.ownsRow w.heap.size 5 1 v (digs n).length (U8 (digs n))) ∧ Hid (Below w.heap.size w W) := by
  have l1 := block_lt_of_cell h
  have l2 := block_lt_of_cell hv
  have l3 := block_lt_of_cell hr
  have HS := hide (fun W => shortest_any n W hn)
  go_enter Try.func40, Try.ntmps40
  go_wp2
  go_region_with (refine (HS.out _).mono ?_; rintro e w1 ⟨v, rfl, HO, HB⟩; obtain ⟨va, vc, rfl⟩ := row_shape HO.out; have q1 : w1.cell? ⟨vb, 0, none⟩ = some (.pointer (some ⟨rb, ro, none⟩)) := (HB.out.cell l2).trans hv; have q2 : w1.cell? ⟨rb, ro, none⟩ = some old := (HB.out.cell l3).trans hr; have q3 : w1.frozen? ⟨rb, ro, none⟩ = false := (HB.out.frozen l3).trans hf)
  all_goals (go_wp2; go_ret; exact ⟨rfl, w1, _, rfl, HO, undrew HB.out⟩)

set_option maxHeartbeats 1000000 in
theorem written2 (b o rb ro vb : Nat) (c old : Value) (w : World) (h : w.cell? ⟨b, o, none⟩ = some c) (hv : w.cell? ⟨vb, 0, none⟩ = some (.pointer (some ⟨rb, ro, none⟩))) (hr : w.cell? ⟨rb, ro, none⟩ = some old) (hf : w.frozen? ⟨rb, ro, none⟩ = false) :
    Calls Try.prog 42 #[.pointer (some ⟨b, o, none⟩), .pointer (some ⟨vb, 0, none⟩)] w fun e w' => e = .returned (.bool true) ∧ ∃ W, w' = W.setCell ⟨rb, ro, none⟩ (.slice (some ⟨b, o, none⟩) 32 32) ∧ Hid (Below w.heap.size w W) := by
  have l1 := block_lt_of_cell h
  have l2 := block_lt_of_cell hv
  have l3 := block_lt_of_cell hr
  go_enter Try.func42, Try.ntmps42
  go_wp2
  go_region
  all_goals (go_wp2; go_ret; exact ⟨rfl, w.drew, rfl, (Below.refl _ _).drew⟩)

set_option maxHeartbeats 1000000 in
theorem written3 (b o rb ro vb n c : Nat) (a : Option Addr) (old l m : Value) (w : World) (h : w.cell? ⟨b, o, none⟩ = some (.slice a n c)) (hv : w.cell? ⟨vb, 0, none⟩ = some (.pointer (some ⟨rb, ro, none⟩))) (hr : w.cell? ⟨rb, ro, none⟩ = some old) (hf : w.frozen? ⟨rb, ro, none⟩ = false) :
    Calls Try.prog 43 #[.pointer (some ⟨b, o, none⟩), l, m, .pointer (some ⟨vb, 0, none⟩)] w fun e w' => e = .returned (.bool true) ∧ ∃ W, w' = W.setCell ⟨rb, ro, none⟩ (.slice a n c) ∧ Hid (Below w.heap.size w W) := by
  have l1 := block_lt_of_cell h
  have l2 := block_lt_of_cell hv
  have l3 := block_lt_of_cell hr
  go_enter Try.func43, Try.ntmps43
  go_wp2
  go_region
  all_goals (go_wp2; go_ret; exact ⟨rfl, w.drew, rfl, (Below.refl _ _).drew⟩)

theorem enters_written1 : Enters 40 := enters_of Try.func40 (by kernel_rfl) rfl
theorem enters_written2 : Enters 42 := enters_of Try.func42 (by kernel_rfl) rfl
theorem enters_written3 : Enters 43 := enters_of Try.func43 (by kernel_rfl) rfl
theorem enters_read1 : Enters 62 := enters_of Try.func62 (by kernel_rfl) rfl
theorem enters_read2 : Enters 64 := enters_of Try.func64 (by kernel_rfl) rfl
theorem enters_read3 : Enters 65 := enters_of Try.func65 (by kernel_rfl) rfl

set_option maxHeartbeats 1000000 in
theorem make_written (p : Addr) (w : World) : Calls Try.prog 21 #[.pointer (some p)] w fun e w' => ∃ vb, e = .returned (deedV 40 42 43 #[.pointer (some ⟨vb, 0, none⟩)]) ∧ w'.cell? ⟨vb, 0, none⟩ = some (.pointer (some p)) ∧ w.heap.size ≤ vb ∧ vb < w'.heap.size ∧ Hid (Below w.heap.size w w') := by
  have hm := hmf
  go_enter Try.func21, Try.ntmps21
  go_wp2
  exact bodyPost_ret (v := deedV 40 42 43 #[.pointer (some ⟨w.heap.size, 0, none⟩)]) (by simp [results, Try.results21, go_sem, deedV]) rfl ⟨w.heap.size, rfl, by simp, Nat.le_refl _, by simp; omega, ((Below.refl _ _).alloc (Nat.le_refl _) _).alloc (by simp) _⟩
set_option maxHeartbeats 1000000 in
theorem make_read (a : Option Addr) (n c : Nat) (w : World) : Calls Try.prog 34 #[.slice a n c] w fun e w' => ∃ vb, e = .returned (deedV 62 64 65 #[.pointer (some ⟨vb, 0, none⟩)]) ∧ w'.cell? ⟨vb, 0, none⟩ = some (.slice a n c) ∧ w.heap.size ≤ vb ∧ vb < w'.heap.size ∧ Hid (Below w.heap.size w w') := by
  have hm := hmf
  go_enter Try.func34, Try.ntmps34
  go_wp2
  exact bodyPost_ret (v := deedV 62 64 65 #[.pointer (some ⟨w.heap.size, 0, none⟩)]) (by simp [results, Try.results34, go_sem, deedV]) rfl ⟨w.heap.size, rfl, by simp, Nat.le_refl _, by simp; omega, ((Below.refl _ _).alloc (Nat.le_refl _) _).alloc (by simp) _⟩
end Go.Proofs.Ytcbadmkgbaffpaa
