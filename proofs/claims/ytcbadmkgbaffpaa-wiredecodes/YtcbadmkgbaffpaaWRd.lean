/- wire's read over this seat's translation: the deeds that set a field to what bytes say. -/
import Derived.Test.YtcbadmkgbaffpaaWBare2
import Derived.Test.YtcbadmkgbaffpaaWWr
namespace Go.Proofs.Ytcbadmkgbaffpaa
open Go.RowKit
set_option linter.unusedVariables false

def numOf : Option Int → Int
  | some n => n
  | none => 0
set_option maxHeartbeats 1000000 in
theorem read1 (b o vb c : Nat) (a : Option Addr) (L : List Int) (old l m : Value) (w : World) (hr : w.cell? ⟨b, o, none⟩ = some old) (hf : w.frozen? ⟨b, o, none⟩ = false) (hv : w.cell? ⟨vb, 0, none⟩ = some (.slice a L.length c)) (hI : IsB w a c L) (hL : Bytes L) (hn : L.length ≤ 9223372036854775807) :
    Calls Try.prog 62 #[.pointer (some ⟨b, o, none⟩), l, m, .pointer (some ⟨vb, 0, none⟩)] w fun e w' => e = .returned (.bool (rdNum L).isSome) ∧ w' = w.setCell ⟨b, o, none⟩ (.int .i64 (numOf (rdNum L))) := by
  have HN := hide (number_any a c L w hI hL hn)
  obtain ⟨x, hx⟩ : ∃ x, rdNum L = x := ⟨_, rfl⟩
  unfold rdNumV at HN
  rw [hx] at HN ⊢
  clear hI hL hn hx
  generalize L.length = n at *
  cases x with
  | none =>
    go_enter Try.func62, Try.ntmps62
    go_wp2_with fail
    refine HN.out.mono ?_
    rintro e w1 ⟨rfl, rfl⟩
    go_wp2
    go_ret
    exact ⟨rfl, rfl⟩
  | some y =>
    go_enter Try.func62, Try.ntmps62
    go_wp2_with fail
    refine HN.out.mono ?_
    rintro e w1 ⟨rfl, rfl⟩
    go_wp2
    go_ret
    exact ⟨rfl, rfl⟩

theorem copy_any (b o : Nat) (a : Option Addr) (c : Nat) (L : List Int) (w : World) (hI : IsB w a c L) (ht : w.there b o 32) :
    ∃ n : Int, ∀ ty, (Builtin.copy_ #[23, 23] ty #[.slice (some ⟨b, o, none⟩) 32 32, .slice a L.length c]).run Try.prog w = .ok (.int .i64 n) (w.setCells b o (U8 (L.take 32))) := by
  have h5 : (Try.prog.info? 5).map (·.size) = some 1 := by kernel_rfl
  rcases hI with ⟨rfl, rfl, rfl⟩ | ⟨x, rfl, hc⟩
  · exact ⟨0, fun ty => run_copy_none w 23 23 ty 5 _ _ 32 32 _ _ Try.underlying23 h5 rfl⟩
  · refine ⟨_, fun ty => run_copy_cells w 23 23 ty 5 b o 32 32 x L.length c (U8 (L.take 32)) Try.underlying23 h5 (by rw [U8_length, List.length_take]; exact Nat.min_comm _ _) (fun j v hv => ?_) (fun j hj => (ht j (by rw [U8_length, List.length_take] at hj; omega)).1) (fun j hj => (ht j (by rw [U8_length, List.length_take] at hj; omega)).2) (one_u8 _)⟩
    refine hc j v ?_
    have hj : j < (L.take 32).length := by have := (List.getElem?_eq_some_iff.1 hv).1; rw [U8_length] at this; exact this
    rw [U8_at _ _ hj] at hv
    rw [List.length_take] at hj
    rw [U8_at _ _ (by omega), ← hv, List.getD_eq_getElem?_getD, List.getD_eq_getElem?_getD, List.getElem?_take, if_pos (by omega)]

set_option maxHeartbeats 1000000 in
theorem read2 (b o vb c : Nat) (a : Option Addr) (L : List Int) (w : World) (ht : w.there b o 32) (hv : w.cell? ⟨vb, 0, none⟩ = some (.slice a L.length c)) (hne : vb ≠ b) (hI : IsB w a c L) (hn : L.length ≤ 9223372036854775807) :
    Calls Try.prog 64 #[.pointer (some ⟨b, o, none⟩), .pointer (some ⟨vb, 0, none⟩)] w fun e w' => e = .returned (.bool ((L.length : Int) == 32)) ∧ ∃ W, w' = W.setCells b o (U8 (L.take 32)) ∧ Hid (Below w.heap.size w W) := by
  obtain ⟨n, hcp⟩ := copy_any b o a c L w.drew hI ht
  have hv2 : (w.drew.setCells b o (U8 (L.take 32))).cell? ⟨vb, 0, none⟩ = some (.slice a L.length c) := (World.cell?_setCells_out b _ o w.drew ⟨vb, 0, none⟩ (fun e => absurd e hne)).trans hv
  have HW := hide (show ∃ W, w.drew.setCells b o (U8 (L.take 32)) = W.setCells b o (U8 (L.take 32)) ∧ Hid (Below w.heap.size w W) from ⟨w.drew, rfl, (Below.refl _ _).drew⟩)
  obtain ⟨v0, c0⟩ : ∃ v, w.cell? ⟨b, o, none⟩ = some v := Option.isSome_iff_exists.1 (ht 0 (by omega)).1
  generalize w.drew.setCells b o (U8 (L.take 32)) = W8 at *
  obtain ⟨len, hlen⟩ : ∃ len, L.length = len := ⟨_, rfl⟩
  have HLN := hide hlen
  rw [hlen] at hcp hv2 hv hn
  clear hlen ht hI
  go_enter Try.func64, Try.ntmps64
  go_wp2
  go_region
  all_goals (go_wp2; go_ret; exact ⟨by rw [HLN.out]; rfl, HW.out⟩)

set_option maxHeartbeats 1000000 in
theorem read3 (b o vb n c : Nat) (a : Option Addr) (old l m : Value) (w : World) (hr : w.cell? ⟨b, o, none⟩ = some old) (hf : w.frozen? ⟨b, o, none⟩ = false) (hv : w.cell? ⟨vb, 0, none⟩ = some (.slice a n c)) :
    Calls Try.prog 65 #[.pointer (some ⟨b, o, none⟩), l, m, .pointer (some ⟨vb, 0, none⟩)] w fun e w' => e = .returned (.bool true) ∧ w' = w.setCell ⟨b, o, none⟩ (.slice a n c) := by
  go_enter Try.func65, Try.ntmps65
  go_wp2
  go_ret
  exact ⟨rfl, rfl⟩
end Go.Proofs.Ytcbadmkgbaffpaa
