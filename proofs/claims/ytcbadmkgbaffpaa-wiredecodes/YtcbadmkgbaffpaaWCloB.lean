/- The deeds of package wire on arrays, and those that make memory, over this seat's translation. -/
import Derived.Test.YtcbadmkgbaffpaaWCloA
import Derived.Stop.BytesEq
import Derived.Deep.WholeRow
import Derived.Deep.RegionHeld3
namespace Go.Proofs.Ytcbadmkgbaffpaa
open Go.RowKit
set_option linter.unusedVariables false

theorem all_at : ∀ (xs ys : List Int), xs.length = ys.length → ((List.range xs.length).all fun i => xs.getD i 0 == ys.getD i 0) = decide (xs = ys)
  | [], [], _ => rfl
  | x :: xs, y :: ys, h => by
    have ih := all_at xs ys (by simpa using h)
    rw [List.length_cons, List.range_succ_eq_map, List.all_cons, List.all_map]
    simp only [List.getD_cons_zero, Function.comp_def, List.getD_cons_succ, ih]
    by_cases hx : x = y <;> by_cases hy : xs = ys <;> simp [hx, hy]
  | [], _ :: _, h => by simp at h
  | _ :: _, [], h => by simp at h

/-- two arrays of bytes are held against each other -/
theorem eq_arrays (w : World) (xs ys : List Int) (hx : xs.length = 32) (hy : ys.length = 32) :
    (Op.equalIn 10000 22 (.agg (U8 xs).toArray) (.agg (U8 ys).toArray)).run Try.prog w = .ok (decide (xs = ys)) w := by
  have he : Try.prog.underlying 5 = some (.int .u8) := Try.underlying5
  have ht : Try.prog.underlying 22 = some (.array 32 5) := Try.underlying22
  have hsz : ∀ w, (sizeOf 5).run Try.prog w = .ok 1 w := fun w => by
    obtain ⟨i0, hi, _, hz1, _⟩ := info_parts Try.info5
    simp [sizeOf, typeInfo, hi, hz1]
  have key : (Op.equalIn 10000 22 (.agg (U8 xs).toArray) (.agg (U8 ys).toArray)).run Try.prog w = .ok (decide (xs = ys)) w := by
    rw [← all_at xs ys (hx.trans hy.symm), hx, List.range_eq_range', Op.equalIn]
    simp only [Sem.run_bind, run_underlying ht, Result.andThen_ok, hsz, Std.Legacy.Range.forIn_eq_forIn_range', Std.Legacy.Range.size, Nat.sub_zero, Nat.add_sub_cancel, Nat.div_one]
    have hl : ∀ i ∈ List.range' 0 32 1, i < 32 := fun i hi => by simpa using (List.mem_range'_1.1 hi).2
    generalize List.range' 0 32 1 = l at hl ⊢
    induction l with
    | nil => simp
    | cons i l ih =>
      have hi : i < 32 := hl i (by simp)
      have px : (part 5 (U8 xs).toArray (i * 1)).run Try.prog w = .ok (.int .u8 (xs.getD i 0)) w := by
        simp [part, isAgg, run_underlying he, U8_at xs i (by omega)]
      have py : (part 5 (U8 ys).toArray (i * 1)).run Try.prog w = .ok (.int .u8 (ys.getD i 0)) w := by
        simp [part, isAgg, run_underlying he, U8_at ys i (by omega)]
      have pe : (Op.equalIn 9999 5 (.int .u8 (xs.getD i 0)) (.int .u8 (ys.getD i 0))).run Try.prog w = .ok (xs.getD i 0 == ys.getD i 0) w := run_equalIn_int w 9998 5 .u8 .u8 _ _ he
      simp only [List.forIn_cons, Sem.run_bind, px, py, pe, Result.andThen_ok, List.all_cons]
      cases hb : (xs.getD i 0 == ys.getD i 0)
      · simp
      · simp only [Bool.not_true, Bool.false_eq_true, if_false, Sem.run_pure, Result.andThen_ok, Bool.true_and]
        exact ih fun j hj => hl j (by simp [hj])
  exact key

def Z32 : List Int := List.replicate 32 0
theorem zero32 (w : World) : (zeroValue 22).run Try.prog w = .ok (.agg (U8 Z32).toArray) w :=
  (zero_of_info (P := Try.prog) (t := 22) (v := .agg (U8 Z32).toArray) (n := 32) (by kernel_rfl)).1 w

theorem info32 {l : List Int} (h : l.length = 32) : (Try.prog.info? 22).map (·.size) = some (U8 l).length := by rw [U8_length, h]; kernel_rfl
theorem size32 {l : List Int} (h : l.length = 32) : (Try.prog.info? 22).map (·.size) = some (U8 l).toArray.size := by rw [List.size_toArray, U8_length, h]; kernel_rfl

theorem zero2 (b o : Nat) (l : List Int) (w : World) (h : w.rangeAt b o (U8 l)) (hl : l.length = 32) :
    Calls Try.prog 50 #[.pointer (some ⟨b, o, none⟩)] w fun e w' => e = .returned (.bool (decide (l = Z32))) ∧ w' = w := by
  have h2 := eq_arrays w l Z32 hl (by decide)
  have hz := zero32 w
  have H := hide h
  have c0 : ∃ v, w.cell? ⟨b, o, none⟩ = some v := ⟨_, by have := h 0 _ (U8_at l 0 (by omega)); exact this⟩
  obtain ⟨v0, c0⟩ := c0
  clear h
  go_enter Try.func50, Try.ntmps50
  go_wp2_with (refine wpList_load_mid rfl 22 (.tmp 4) rfl b o rfl (U8 l) _ H.out Try.underlying22 rfl (info32 hl) ?_)
  generalize Z32 = Z at *
  go_wp2
  go_ret
  exact ⟨rfl, rfl⟩

theorem wiped2 (b o : Nat) (w : World) (h : w.there b o 32) :
    Calls Try.prog 57 #[.pointer (some ⟨b, o, none⟩)] w fun e w' => e = .returned (.bool true) ∧ w' = w.setCells b o (U8 Z32) := by
  have hz := zero32 w
  have H := hide h
  obtain ⟨v0, c0⟩ : ∃ v, w.cell? ⟨b, o, none⟩ = some v := Option.isSome_iff_exists.1 (h 0 (by omega)).1
  have HL := hide (show (U8 Z32).toArray.size = 32 by simp [U8, Z32])
  have HT := hide (show (U8 Z32).toArray.toList = U8 Z32 by simp)
  have HO := hide (show (U8 Z32).toArray.all (·.oneCell') = true from all_oneCell_toArray (one_u8 Z32))
  have HI := hide (size32 (l := Z32) (by decide))
  clear h
  rw [← HT.out]
  generalize U8 Z32 = Z at *
  go_enter Try.func57, Try.ntmps57
  go_wp2_with (refine wpList_store_mid rfl 22 (.tmp 5) (.tmp 4) rfl b o _ rfl rfl (by rw [HL.out]; exact H.out) HI.out HO.out ?_)
  go_wp2
  go_ret
  exact ⟨rfl, rfl⟩

/-- Clone: the same bytes, in new memory -/
theorem clone_far (ao : Option Addr) (c : Nat) (L : List Int) (w : World) (hI : IsB w ao c L) (hl : L.length ≤ 140737488355328) :
    Calls Try.prog 55 #[.slice ao L.length c] w fun e w' => ∃ a c', e = .returned (.slice a L.length c') ∧ Hid (IsB w' a c' L) ∧ Hid (∀ x, a = some x → L ≠ [] → w.heap.size ≤ x.block) ∧ Hid (Below w.heap.size w w') := by
  rcases hI with ⟨rfl, rfl, rfl⟩ | ⟨x, rfl, hc⟩
  · refine (clone_none w).mono fun e w' h => ?_
    obtain ⟨rfl, rfl⟩ := h
    exact ⟨none, 0, rfl, .inl ⟨rfl, rfl, rfl⟩, fun x hx => (by cases hx), Below.refl _ _⟩
  · refine (clone_new x c L.length L w (.inr ⟨x, rfl, hc⟩) rfl hl).mono fun e w' h => ?_
    obtain ⟨ao, cp, rfl, hO, hB⟩ := h
    obtain ⟨ao', cp', he, hI, _⟩ := own_isB hO.out
    cases he
    exact ⟨ao, cp, rfl, hI, fun y hy _ => by subst hy; exact (hO.out.lt _ rfl).1, hB⟩

/-- Clone, set in place -/
theorem cloned3 (b o : Nat) (ao : Option Addr) (c : Nat) (L : List Int) (l m : Value) (w : World) (h : w.cell? ⟨b, o, none⟩ = some (.slice ao L.length c)) (hf : w.frozen? ⟨b, o, none⟩ = false) (hI : IsB w ao c L) (hl : L.length ≤ 140737488355328) :
    Calls Try.prog 54 #[.pointer (some ⟨b, o, none⟩), l, m] w fun e w' => ∃ a c' W, e = .returned (.bool true) ∧ w' = W.setCell ⟨b, o, none⟩ (.slice a L.length c') ∧ Hid (IsB W a c' L) ∧ (∀ x, a = some x → L ≠ [] → w.heap.size ≤ x.block) ∧ Hid (Below w.heap.size w W) := by
  have hlt := block_lt_of_cell h
  have HC := hide (clone_far ao c L w hI hl)
  clear hI
  generalize L.length = n at *
  go_enter Try.func54, Try.ntmps54
  go_wp2_with fail
  refine HC.out.mono ?_
  rintro e w1 ⟨a, c', rfl, HI, hfar, HB⟩
  have q1 : w1.cell? ⟨b, o, none⟩ = some (.slice ao n c) := (HB.out.cell hlt).trans h
  have q2 : w1.frozen? ⟨b, o, none⟩ = false := (HB.out.frozen hlt).trans hf
  clear HC
  go_wp2
  go_ret
  exact ⟨a, c', w1, rfl, rfl, HI, hfar.out, HB⟩
end Go.Proofs.Ytcbadmkgbaffpaa
