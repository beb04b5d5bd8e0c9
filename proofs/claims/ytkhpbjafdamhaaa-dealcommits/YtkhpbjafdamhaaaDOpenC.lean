/- What the statement of commitments is handed. -/
import Derived.Test.YtkhpbjafdamhaaaDCo
import Derived.Test.YtkhpbjafdamhaaaDOpen
namespace Go.Proofs.Ytkhpbjafdamhaaa
open Go.ChangeShapes Go.WideShapes Go.ChangeAt Go.RowKit
set_option linter.unusedVariables false
set_option linter.unusedSimpArgs false
set_option maxRecDepth 100000
section
variable {H : Type} {enc : TypeId × Value → H} {w : World} {fuel : Nat} {cs : List Value} {x : DataW H × List MemPlace}
theorem open_hs2 {ao : Option Addr} {n c : Nat} (h : DataW.trod enc Try.prog w 0 (fun _ => true) true fuel 27 [.slice ao n c] = some x) (hs : ∀ m ∈ x.1.weights Try.prog 27, m ≤ reachBytes) :
    n * 64 ≤ 140737488355328 ∧ (ao = none → n = 0 ∧ c = 0) := by
  rcases Go.Deep.open_slice Try.underlying27 h with ⟨hcs, _⟩ | ⟨a, len, cap, m, k, D, Pl, hcs, _, hl, hm, hmm, rfl, hx⟩
  · simp at hcs
    obtain ⟨rfl, rfl, rfl⟩ := hcs; exact ⟨by omega, fun _ => ⟨rfl, rfl⟩⟩
  · simp at hcs
    obtain ⟨rfl, rfl, rfl⟩ := hcs
    have hm' : m = c := by simpa using hmm
    subst hm'; have hr := hs _ (by simp only [DataW.weights, Try.underlying27]; exact List.mem_cons_self ..); rw [bytesOf49] at hr; simp only [List.length_map, List.length_range, reachBytes] at hr; exact ⟨by omega, fun h => by cases h⟩
theorem open_viewC (h : DataW.trod enc Try.prog w 0 (fun _ => true) true fuel 29 cs = some x) (hs : ∀ m ∈ x.1.weights Try.prog 29, m ≤ reachBytes) :
    ∃ (a b : Int) (ao : Option Addr) (n c : Nat) (Cs : Nat → Array Value) (hv : Nat → HV), cs = [.int .i64 a, .int .i64 b, .slice ao n c] ∧ a ≤ 9223372036854775807 ∧ b ≤ 9223372036854775807 ∧ n ≤ 140737488355328 ∧ Hs w ao n Cs hv ∧ (∀ i, i < n → (hv i).am ≤ 9223372036854775807) ∧ n * 64 ≤ 140737488355328 ∧ (ao = none → n = 0 ∧ c = 0) := by
  obtain ⟨xs, m, _, rfl, hlen, hxl, hall⟩ := DataW.trod_struct Try.underlying29 h; rw [cellsOf29] at hlen
  have hxl' : xs.length = 3 := hxl
  have at_ : ∀ i, i < 3 → xs[i]? = some (xs.getD i (.nil, [])) := fun i hi => by rw [List.getD_eq_getElem?_getD, List.getElem?_eq_getElem (by omega)]; rfl
  obtain ⟨a, e0, r0⟩ := open_num ((hall 0 _ rfl).trans (at_ 0 (by omega))); obtain ⟨b, e1, r1⟩ := open_num ((hall 1 _ rfl).trans (at_ 1 (by omega))); have e2 := (hall 2 _ rfl).trans (at_ 2 (by omega)); replace e0 := (show (cs.drop 0).take (Try.prog.cellsOf 3) = _ from e0); replace e1 := (show (cs.drop 1).take (Try.prog.cellsOf 3) = _ from e1); rw [cellsOf3] at e0 e1
  match cs, hlen with
  | [v0, v1, v2], _ =>
    simp at e0 e1
    subst e0 e1
    have e2 : DataW.trod enc Try.prog w 0 (fun _ => true) true m 27 [v2] = some (xs.getD 2 (.nil, [])) := e2
    obtain ⟨ao, n, c, rfl⟩ : ∃ ao n c, v2 = .slice ao n c := by
      rcases Go.Deep.open_slice Try.underlying27 e2 with ⟨hcs, _⟩ | ⟨a', len, cap, m', k, D, Pl, hcs, _⟩
      · simp at hcs; exact ⟨_, _, _, hcs⟩
      · simp at hcs; exact ⟨_, _, _, hcs⟩
    have hw : ∀ k ∈ (xs.getD 2 (.nil, [])).1.weights Try.prog 27, k ≤ reachBytes := (fun k hk => by
      refine hs k ?_; simp only [DataW.weights, Try.underlying29]
      exact DataW.weights_mem_each (j := 2) (t := 27) (d := (xs.getD 2 (.nil, [])).1) rfl (by rw [List.getElem?_map, at_ 2 (by omega)]; rfl) k hk)
    obtain ⟨hn, Cs, hv, hH, hz⟩ := open_hs e2 hw; obtain ⟨q1, q2⟩ := open_hs2 e2 hw; exact ⟨a, b, ao, n, c, Cs, hv, rfl, r0, r1, hn, hH, hz, q1, q2⟩
theorem open_termsC (h : DataW.trod enc Try.prog w 0 (fun _ => true) true fuel 26 cs = some x) : ∃ (l : List Int) (fo : Int), cs.toArray.extract 3 36 = (U8 l ++ [Value.int .i64 fo]).toArray ∧ l.length = 32 := by
  obtain ⟨xs, m, _, rfl, hlen, hxl, hall⟩ := DataW.trod_struct Try.underlying26 h
  have hxl' : xs.length = 11 := hxl
  have at_ : ∀ i, i < 11 → xs[i]? = some (xs.getD i (.nil, [])) := fun i hi => by rw [List.getD_eq_getElem?_getD, List.getElem?_eq_getElem (by omega)]; rfl
  obtain ⟨l, fo, e3, hl⟩ := open_ref ((hall 3 _ rfl).trans (at_ 3 (by omega))); replace e3 := (show (cs.drop 3).take (Try.prog.cellsOf 24) = _ from e3); rw [cellsOf24] at e3; refine ⟨l, fo, ?_, hl⟩; rw [← e3, List.extract_toArray, List.extract_eq_take_drop]
end
theorem refl24 {l : List Int} (fo : Int) (h0 : l.length = 32) : Refl 24 10000 (.agg (U8 l ++ [Value.int .i64 fo]).toArray) := refl_struct (d := 9999) (L := [(22, 0), (3, 32)]) (by kernel_rfl) (by kernel_rfl) (by kernel_rfl) fun q hq => by
  have e0 : (U8 l).length = 32 := by simp [U8, h0]
  simp only [List.mem_cons, List.mem_nil_iff, or_false] at hq
  rcases hq with rfl | rfl
  · exact ⟨_, partN Try.underlying22 rfl inf22 (u8cut (A := []) (B := U8 l) (C := [Value.int .i64 fo]) rfl e0), refl22 9997 l h0⟩
  · exact ⟨_, part1 Try.underlying3 rfl (by rw [List.getElem?_toArray, List.getElem?_append_right (by omega), e0]; rfl), refl3 9998 fo⟩
theorem isI_in {l : List Int} (fo : Int) (h0 : l.length = 32) : IsI ((U8 l ++ [Value.int .i64 fo]).toArray ++ inRest) := by
  have := IsI.of fo 0 h0 (l1 := ZL) (l2 := ZL) (l3 := ZL) rfl rfl rfl
  have e : ((U8 l ++ [Value.int .i64 fo]) ++ [Value.int .i64 0] ++ U8 ZL ++ U8 ZL ++ U8 ZL).toArray = (U8 l ++ [Value.int .i64 fo]).toArray ++ inRest := by
    unfold inRest
    rw [Z32_u8]
    simp
  rw [e] at this; exact this
end Go.Proofs.Ytkhpbjafdamhaaa
