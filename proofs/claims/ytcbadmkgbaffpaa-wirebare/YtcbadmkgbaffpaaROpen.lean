/- A message that came in: its cells are those of a message whose numbers and lists are there. -/
import Derived.Test.YtcbadmkgbaffpaaRows
import Derived.Test.YtcbadmkgbaffpaaRLives2
import Derived.Test.YtcbadmkgbaffpaaBigRow
import Derived.WalkKit
import Derived.ProofKit
import Derived.OpenShut
import Derived.SizedLaws
import Derived.Deep.Slices
import Derived.WideShapes
namespace Go.Proofs.Ytcbadmkgbaffpaa
open Go.RowKit Go.ChangeShapes Go.WideShapes Go.ChangeAt
set_option linter.unusedVariables false

theorem bytesOf5 : Try.prog.bytesOf 5 = 1 := by kernel_rfl
theorem cellsOf5 : Try.prog.cellsOf 5 = 1 := by kernel_rfl
theorem cellsOf3 : Try.prog.cellsOf 3 = 1 := by kernel_rfl
theorem cellsOf23 : Try.prog.cellsOf 23 = 1 := by kernel_rfl
theorem cellsOf22 : Try.prog.cellsOf 22 = 32 := by kernel_rfl
theorem cellsOf25 : Try.prog.cellsOf 25 = 137 := by kernel_rfl
section
variable {H : Type} {enc : TypeId × Value → H} {w : World} {fuel : Nat} {cs : List Value} {x : DataW H × List MemPlace}
theorem open_lst (h : DataW.trod enc Try.prog w 0 (fun _ => true) true fuel 23 cs = some x) (hs : ∀ m ∈ x.1.weights Try.prog 23, m ≤ reachBytes) : ∃ a c l, cs = (Fld.lst a c l).cells ∧ GoodF w (.lst a c l) := by
  rcases open_ints Try.underlying23 Try.underlying5 cellsOf5 h with ⟨rfl, _⟩ | ⟨y, l, c, zs, rfl, _, hl, hm, hz, hx, hcell, hwz⟩
  · exact ⟨none, 0, [], rfl, .inl ⟨rfl, rfl, rfl⟩, by simp, fun c hc => by cases hc⟩
  · have hz' : zs.length = c := by simpa using hz
    have hr := hs ((zs.take l).length + (zs.drop l).length) (by
      rw [hx]
      simp only [DataW.weights, Try.underlying23, bytesOf5, lits, List.length_map, Nat.mul_one]
      exact List.mem_cons_self ..)
    simp only [List.length_take, List.length_drop, reachBytes] at hr
    obtain ⟨L, hL, hB, h1, h2, h3⟩ := row_isB (w := w) (a := some y) (len := l) (cap := c) (zs := zs) (.inr ⟨y, rfl, hl, hm, hz', by omega, hcell, hwz⟩)
    refine ⟨some y, c, L, by show _ = [Value.slice (some y) L.length c]; rw [hL], hB, by omega, fun b hb => ?_⟩
    obtain ⟨k, hk, rfl⟩ := List.getElem_of_mem hb
    have := h3 k hk
    rw [List.getD_eq_getElem?_getD, List.getElem?_eq_getElem hk] at this
    exact this
theorem open_arr (h : DataW.trod enc Try.prog w 0 (fun _ => true) true fuel 22 cs = some x) : ∃ l, cs = (Fld.arr l).cells ∧ l.length = 32 ∧ GoodF w (.arr l) := by
  obtain ⟨xs, m, _, _, hlen, hxl, hall⟩ := DataW.trod_array Try.underlying22 h
  rw [cellsOf22] at hlen
  have each : ∀ i, i < 32 → ∃ z : Int, cs[i]? = some (.int .u8 z) ∧ 0 ≤ z ∧ z ≤ 255 := fun i hi => by
    have h1 := hall i hi
    rw [cellsOf5, Nat.mul_one, List.getElem?_eq_getElem (by omega)] at h1
    obtain ⟨z, h2, _, h3⟩ := DataW.trod_int Try.underlying5 h1
    have h4 : cs[i]? = some cs[i] := List.getElem?_eq_getElem (by omega)
    rw [List.drop_eq_getElem_cons (by omega), List.take_succ_cons, List.take_zero] at h2
    rw [h4, (List.cons.inj h2).1]
    exact ⟨z, rfl, bounds_u8 h3⟩
  obtain ⟨f, hf⟩ := Go.Deep.choose_lt each
  refine ⟨(List.range 32).map f, ?_, by simp, fun b hb => ?_⟩
  · show cs = U8 ((List.range 32).map f)
    apply List.ext_getElem?
    intro i
    unfold U8
    by_cases hi : i < 32
    · rw [(hf i hi).1, List.getElem?_map, List.getElem?_map, List.getElem?_range hi]; rfl
    · rw [List.getElem?_eq_none (by omega), List.getElem?_eq_none (by simp; omega)]
  · obtain ⟨i, hi, rfl⟩ := List.mem_map.1 hb
    exact (hf i (List.mem_range.1 hi)).2
theorem open_num (h : DataW.trod enc Try.prog w 0 (fun _ => true) true fuel 3 cs = some x) : ∃ n, cs = (Fld.num n).cells ∧ n ≤ 9223372036854775807 := by
  obtain ⟨n, h1, _, h2⟩ := DataW.trod_int Try.underlying3 h
  exact ⟨n, h1, (bounds_i64 h2).2⟩
theorem cut_at (cs : List Value) (o n : Nat) (A : List Value) (h : (cs.drop o).take n = A) : cs.drop o = A ++ cs.drop (o + n) := by
  rw [← h, ← List.drop_drop, List.take_append_drop]
/-- the fields of a message, put together -/
def FM (x0 x1 x2 x3 : Fld) (x4 x5 x6 x7 : Fld) (x8 x9 x10 x11 : Fld) : Nat → Fld
  | 0 => x0 | 1 => x1 | 2 => x2 | 3 => x3 | 4 => x4 | 5 => x5 | 6 => x6 | 7 => x7 | 8 => x8 | 9 => x9 | 10 => x10 | _ => x11
theorem open_msg (h : DataW.trod enc Try.prog w 0 (fun _ => true) true fuel 25 cs = some x) (hs : ∀ m ∈ x.1.weights Try.prog 25, m ≤ reachBytes) :
    ∃ K F, cs = mc K F ∧ Fits F ∧ Good w F ∧ ∀ n, F 2 = .num n → n ≤ 9223372036854775807 := by
  obtain ⟨xs, m, _, rfl, hlen, hxl, hall⟩ := DataW.trod_struct Try.underlying25 h
  rw [cellsOf25] at hlen
  have hxl' : xs.length = 13 := hxl
  have at_ : ∀ i, i < 13 → xs[i]? = some (xs.getD i (.nil, [])) := fun i hi => by rw [List.getD_eq_getElem?_getD, List.getElem?_eq_getElem (by omega)]; rfl
  have wt : ∀ i, i < 13 → (#[(3 : TypeId), 3, 3, 3, 3, 22, 23, 22, 22, 22, 3, 3, 23] : Array TypeId).toList[i]? = some 23 → ∀ k ∈ (xs.getD i (.nil, [])).1.weights Try.prog 23, k ≤ reachBytes := fun i hi ht k hk => by
    refine hs k ?_
    simp only [DataW.weights, Try.underlying25]
    exact DataW.weights_mem_each (j := i) (t := 23) (d := (xs.getD i (.nil, [])).1) ht (by rw [List.getElem?_map, at_ i hi]; rfl) k hk
  obtain ⟨K, e, _⟩ := open_num ((hall 0 _ rfl).trans (at_ 0 (by omega)))
  obtain ⟨x0, e0, _⟩ := open_num ((hall 1 _ rfl).trans (at_ 1 (by omega)))
  obtain ⟨x1, e1, _⟩ := open_num ((hall 2 _ rfl).trans (at_ 2 (by omega)))
  obtain ⟨x2, e2, r2⟩ := open_num ((hall 3 _ rfl).trans (at_ 3 (by omega)))
  obtain ⟨x3, e3, _⟩ := open_num ((hall 4 _ rfl).trans (at_ 4 (by omega)))
  obtain ⟨x4, e4, l4, g4⟩ := open_arr ((hall 5 _ rfl).trans (at_ 5 (by omega)))
  obtain ⟨a5, c5, x5, e5, g5⟩ := open_lst ((hall 6 _ rfl).trans (at_ 6 (by omega))) (wt 6 (by omega) rfl)
  obtain ⟨x6, e6, l6, g6⟩ := open_arr ((hall 7 _ rfl).trans (at_ 7 (by omega)))
  obtain ⟨x7, e7, l7, g7⟩ := open_arr ((hall 8 _ rfl).trans (at_ 8 (by omega)))
  obtain ⟨x8, e8, l8, g8⟩ := open_arr ((hall 9 _ rfl).trans (at_ 9 (by omega)))
  obtain ⟨x9, e9, _⟩ := open_num ((hall 10 _ rfl).trans (at_ 10 (by omega)))
  obtain ⟨x10, e10, _⟩ := open_num ((hall 11 _ rfl).trans (at_ 11 (by omega)))
  obtain ⟨a11, c11, x11, e11, g11⟩ := open_lst ((hall 12 _ rfl).trans (at_ 12 (by omega))) (wt 12 (by omega) rfl)
  replace e := (show (cs.drop 0).take (Try.prog.cellsOf 3) = (Fld.num K).cells from e)
  rw [cellsOf3] at e
  replace e0 := (show (cs.drop 1).take (Try.prog.cellsOf 3) = (Fld.num x0).cells from e0)
  rw [cellsOf3] at e0
  replace e1 := (show (cs.drop 2).take (Try.prog.cellsOf 3) = (Fld.num x1).cells from e1)
  rw [cellsOf3] at e1
  replace e2 := (show (cs.drop 3).take (Try.prog.cellsOf 3) = (Fld.num x2).cells from e2)
  rw [cellsOf3] at e2
  replace e3 := (show (cs.drop 4).take (Try.prog.cellsOf 3) = (Fld.num x3).cells from e3)
  rw [cellsOf3] at e3
  replace e4 := (show (cs.drop 5).take (Try.prog.cellsOf 22) = (Fld.arr x4).cells from e4)
  rw [cellsOf22] at e4
  replace e5 := (show (cs.drop 37).take (Try.prog.cellsOf 23) = (Fld.lst a5 c5 x5).cells from e5)
  rw [cellsOf23] at e5
  replace e6 := (show (cs.drop 38).take (Try.prog.cellsOf 22) = (Fld.arr x6).cells from e6)
  rw [cellsOf22] at e6
  replace e7 := (show (cs.drop 70).take (Try.prog.cellsOf 22) = (Fld.arr x7).cells from e7)
  rw [cellsOf22] at e7
  replace e8 := (show (cs.drop 102).take (Try.prog.cellsOf 22) = (Fld.arr x8).cells from e8)
  rw [cellsOf22] at e8
  replace e9 := (show (cs.drop 134).take (Try.prog.cellsOf 3) = (Fld.num x9).cells from e9)
  rw [cellsOf3] at e9
  replace e10 := (show (cs.drop 135).take (Try.prog.cellsOf 3) = (Fld.num x10).cells from e10)
  rw [cellsOf3] at e10
  replace e11 := (show (cs.drop 136).take (Try.prog.cellsOf 23) = (Fld.lst a11 c11 x11).cells from e11)
  rw [cellsOf23] at e11
  have hcs : cs = mc K (FM (.num x0) (.num x1) (.num x2) (.num x3) (.arr x4) (.lst a5 c5 x5) (.arr x6) (.arr x7) (.arr x8) (.num x9) (.num x10) (.lst a11 c11 x11)) := by
    have d0 := cut_at cs 0 1 _ e
    rw [cut_at cs 1 1 _ e0, cut_at cs 2 1 _ e1, cut_at cs 3 1 _ e2, cut_at cs 4 1 _ e3, cut_at cs 5 32 _ e4, cut_at cs 37 1 _ e5, cut_at cs 38 32 _ e6, cut_at cs 70 32 _ e7, cut_at cs 102 32 _ e8, cut_at cs 134 1 _ e9, cut_at cs 135 1 _ e10, cut_at cs 136 1 _ e11, (show cs.drop (136 + 1) = [] from List.drop_eq_nil_of_le (by omega)), List.drop_zero] at d0
    rw [d0]
    rfl
  refine ⟨K, _, hcs, fun i hi => ?_, fun i hi => ?_, fun n hn => ?_⟩
  · match i, hi with
    | 0, _ => exact ⟨rfl, fun l h => by cases h⟩
    | 1, _ => exact ⟨rfl, fun l h => by cases h⟩
    | 2, _ => exact ⟨rfl, fun l h => by cases h⟩
    | 3, _ => exact ⟨rfl, fun l h => by cases h⟩
    | 4, _ => exact ⟨rfl, fun l h => by cases h; exact l4⟩
    | 5, _ => exact ⟨rfl, fun l h => by cases h⟩
    | 6, _ => exact ⟨rfl, fun l h => by cases h; exact l6⟩
    | 7, _ => exact ⟨rfl, fun l h => by cases h; exact l7⟩
    | 8, _ => exact ⟨rfl, fun l h => by cases h; exact l8⟩
    | 9, _ => exact ⟨rfl, fun l h => by cases h⟩
    | 10, _ => exact ⟨rfl, fun l h => by cases h⟩
    | 11, _ => exact ⟨rfl, fun l h => by cases h⟩
  · match i, hi with
    | 0, _ => trivial
    | 1, _ => trivial
    | 2, _ => trivial
    | 3, _ => trivial
    | 4, _ => exact g4
    | 5, _ => exact g5
    | 6, _ => exact g6
    | 7, _ => exact g7
    | 8, _ => exact g8
    | 9, _ => trivial
    | 10, _ => trivial
    | 11, _ => exact g11
  · have : Fld.num x2 = .num n := hn
    cases this
    exact r2
end
end Go.Proofs.Ytcbadmkgbaffpaa
