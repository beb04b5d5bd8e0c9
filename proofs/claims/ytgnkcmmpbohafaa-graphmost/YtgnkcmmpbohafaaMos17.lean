/- Calls in a row and what is wanted, with its list, as they came in. -/
import Derived.Test.YtgnkcmmpbohafaaMos10
import Derived.Test.YtgnkcmmpbohafaaMos16
namespace Go.Proofs.Ytgnkcmmpbohafaa
open Go.RowKit Go.ChangeShapes Go.WideShapes Go.ChangeAt
set_option linter.unusedVariables false
set_option linter.unusedSimpArgs false
set_option maxRecDepth 100000
theorem bytesOf60 : Try.prog.bytesOf 60 = 136 := by kernel_rfl
theorem bytesOf3 : Try.prog.bytesOf 3 = 8 := by kernel_rfl
section
variable {H : Type} {enc : TypeId × Value → H} {w : World} {fuel : Nat} {cs : List Value} {x : DataW H × List MemPlace}
theorem open_opN (h : DataW.trod enc Try.prog w 0 (fun _ => true) true fuel 60 cs = some x) : ∃ p : OV, cs = (OL p).toList ∧ ON p := by
  obtain ⟨xs, m, _, rfl, hlen, hxl, hall⟩ := DataW.trod_struct Try.underlying60 h; rw [cellsOf60] at hlen
  have hxl' : xs.length = 5 := hxl
  have at_ : ∀ i, i < 5 → xs[i]? = some (xs.getD i (.nil, [])) := fun i hi => by rw [List.getD_eq_getElem?_getD, List.getElem?_eq_getElem (by omega)]; rfl
  obtain ⟨a, e0, r0⟩ := open_num ((hall 0 _ rfl).trans (at_ 0 (by omega))); obtain ⟨e, e1, r1⟩ := open_edge ((hall 1 _ rfl).trans (at_ 1 (by omega))); obtain ⟨b, e2, r2⟩ := open_num ((hall 2 _ rfl).trans (at_ 2 (by omega))); obtain ⟨c, e3, r3⟩ := open_num ((hall 3 _ rfl).trans (at_ 3 (by omega))); obtain ⟨d, e4⟩ := open_bl ((hall 4 _ rfl).trans (at_ 4 (by omega))); replace e0 := (show (cs.drop 0).take (Try.prog.cellsOf 3) = _ from e0); rw [cellsOf3] at e0; replace e1 := (show (cs.drop 1).take (Try.prog.cellsOf 49) = _ from e1); rw [cellsOf49] at e1
  replace e2 := (show (cs.drop 14).take (Try.prog.cellsOf 3) = _ from e2); rw [cellsOf3] at e2; replace e3 := (show (cs.drop 15).take (Try.prog.cellsOf 3) = _ from e3); rw [cellsOf3] at e3; replace e4 := (show (cs.drop 16).take (Try.prog.cellsOf 4) = _ from e4); rw [cellsOf4] at e4; have d0 := cut_at cs 0 1 _ e0; rw [cut_at cs 1 13 _ e1, cut_at cs 14 1 _ e2, cut_at cs 15 1 _ e3, cut_at cs 16 1 _ e4, (show cs.drop (16 + 1) = [] from List.drop_eq_nil_of_le (by omega)), List.drop_zero] at d0
  exact ⟨⟨a, e, b, c, d⟩, d0, ⟨⟨r1.2.2.2.2.1.1.2, r1.2.2.2.1.2, r1.2.2.2.2.2.2.1.1, r1.2.2.2.2.2.2.1.2, r1.2.2.2.2.2.2.2.2.1, r1.2.2.2.2.2.2.2.2.2⟩, r2.1, r2.2, r3.1, r3.2⟩⟩
def O0 : OV := ⟨0, NE, 0, 0, false⟩
theorem open_ops {ao : Option Addr} {n c : Nat} (h : DataW.trod enc Try.prog w 0 (fun _ => true) true fuel 22 [.slice ao n c] = some x) (hs : ∀ m ∈ x.1.weights Try.prog 22, m ≤ reachBytes) : n ≤ 140737488355328 ∧ ∃ p, OpAt w ao n p ∧ ∀ i, i < n → ON (p i) := by
  rcases Go.Deep.open_slice Try.underlying22 h with ⟨hcs, _⟩ | ⟨a, len, cap, m, k, D, Pl, hcs, _, hl, hm, hmm, rfl, hx⟩
  · simp at hcs
    obtain ⟨rfl, rfl, rfl⟩ := hcs; exact ⟨by omega, fun _ => O0, .inl rfl, fun i hi => by omega⟩
  · simp at hcs
    obtain ⟨rfl, rfl, rfl⟩ := hcs
    have hm' : m = c := by simpa using hmm
    subst hm'; have hr := hs _ (by simp only [DataW.weights, Try.underlying22]; exact List.mem_cons_self ..); rw [bytesOf60] at hr; simp only [List.length_map, List.length_range, reachBytes] at hr
    have each : ∀ i, i < n → ∃ q : OV, ON q ∧ ∀ j, j < 17 → w.cell? ((a.add (i * 17)).add j) = (OL q).toList[j]? := fun i hi => by
      obtain ⟨cs', h1, h2⟩ := hx i (by omega); rw [cellsOf60] at h1; obtain ⟨_, hlen, hcell⟩ := World.cells?_some h1; obtain ⟨q, hq, hqa⟩ := open_opN h2; exact ⟨q, hqa, fun j hj => by rw [← hq]; exact hcell j hj⟩
    have : Inhabited OV := ⟨O0⟩
    obtain ⟨q, hq⟩ := Go.Deep.choose_lt each; refine ⟨by omega, q, ?_, fun i hi => (hq i hi).1⟩
    by_cases h0 : n = 0
    · exact .inl h0
    obtain ⟨b, off, spot⟩ := a
    have hsp : spot = none := by
      have h := (hq 0 (by omega)).2 0 (by omega)
      simpa [Addr.add] using World.cell?_spot (h.trans (show (OL (q 0)).toList[0]? = some (.int .i64 (q 0).kd) from rfl))
    subst hsp; refine .inr ⟨b, off, rfl, fun i hi j v hv => ?_⟩
    have hj : j < 17 := (List.getElem?_eq_some_iff.1 hv).1
    have := (hq i hi).2 j hj
    rw [hv, Addr.add_mid, Addr.add_mid] at this; exact this
theorem open_ints {ao : Option Addr} {n c : Nat} (h : DataW.trod enc Try.prog w 0 (fun _ => true) true fuel 30 [.slice ao n c] = some x) (hs : ∀ m ∈ x.1.weights Try.prog 30, m ≤ reachBytes) : n ≤ 140737488355328 ∧ ∃ l : List Int, Is w ao l ∧ n = l.length := by
  rcases Go.Deep.open_slice Try.underlying30 h with ⟨hcs, _⟩ | ⟨a, len, cap, m, k, D, Pl, hcs, _, hl, hm, hmm, rfl, hx⟩
  · simp at hcs
    obtain ⟨rfl, rfl, rfl⟩ := hcs; exact ⟨by omega, [], .inl rfl, rfl⟩
  · simp at hcs
    obtain ⟨rfl, rfl, rfl⟩ := hcs
    have hm' : m = c := by simpa using hmm
    subst hm'; have hr := hs _ (by simp only [DataW.weights, Try.underlying30]; exact List.mem_cons_self ..); rw [bytesOf3] at hr; simp only [List.length_map, List.length_range, reachBytes] at hr
    have each : ∀ i, i < n → ∃ z : Int, w.cell? (a.add i) = some (.int .i64 z) := fun i hi => by
      obtain ⟨cs', h1, h2⟩ := hx i (by omega); rw [cellsOf3] at h1; obtain ⟨_, hlen, hcell⟩ := World.cells?_some h1; obtain ⟨z, hz, _⟩ := open_num h2
      have := hcell 0 (by omega)
      rw [hz] at this; exact ⟨z, by simpa [Addr.add] using this⟩
    obtain ⟨z, hz⟩ := Go.Deep.choose_lt each; refine ⟨by omega, (List.range n).map z, ?_, by simp⟩
    by_cases h0 : n = 0
    · subst h0
      exact .inl rfl
    obtain ⟨b, off, spot⟩ := a
    have hsp : spot = none := by
      simpa [Addr.add] using World.cell?_spot (hz 0 (by omega))
    subst hsp; refine .inr ⟨b, off, rfl, fun j v hv => ?_⟩
    have hj : j < n := by
      have := (List.getElem?_eq_some_iff.1 hv).1
      simpa using this
    have h1 := hz j hj; rw [List.getElem?_map, List.getElem?_map, List.getElem?_range hj] at hv
    simp at hv
    subst hv; rw [Addr.add_mid] at h1; exact h1
theorem open_wantN (h : DataW.trod enc Try.prog w 0 (fun _ => true) true fuel 32 cs = some x) (hs : ∀ m ∈ x.1.weights Try.prog 32, m ≤ reachBytes) : ∃ (v : WV) (ao : Option Addr) (n c : Nat), cs = (WL_ v ao n c).toList ∧ Is w ao v.av ∧ n = v.av.length ∧ n ≤ 140737488355328 ∧ WN v ∧ Iw v.fr ∧ Iw v.to ∧ Iw v.am ∧ Iw v.la ∧ Iw v.mo := by
  obtain ⟨xs, m, _, rfl, hlen, hxl, hall⟩ := DataW.trod_struct Try.underlying32 h; rw [cellsOf32] at hlen
  have hxl' : xs.length = 7 := hxl
  have at_ : ∀ i, i < 7 → xs[i]? = some (xs.getD i (.nil, [])) := fun i hi => by rw [List.getD_eq_getElem?_getD, List.getElem?_eq_getElem (by omega)]; rfl
  have l5 := (hall 5 _ rfl).trans (at_ 5 (by omega)); obtain ⟨a, e0, r0⟩ := open_num ((hall 0 _ rfl).trans (at_ 0 (by omega))); obtain ⟨b, e1, r1⟩ := open_num ((hall 1 _ rfl).trans (at_ 1 (by omega))); obtain ⟨c, e2, r2⟩ := open_num ((hall 2 _ rfl).trans (at_ 2 (by omega))); obtain ⟨d, e3, r3⟩ := open_num ((hall 3 _ rfl).trans (at_ 3 (by omega))); obtain ⟨f, e4, r4⟩ := open_num ((hall 4 _ rfl).trans (at_ 4 (by omega))); obtain ⟨ao, n, c', e5⟩ := open_sl ((hall 5 _ rfl).trans (at_ 5 (by omega))); obtain ⟨g, e6, r6⟩ := open_num ((hall 6 _ rfl).trans (at_ 6 (by omega))); rw [e5] at l5
  replace e0 := (show (cs.drop 0).take (Try.prog.cellsOf 3) = _ from e0); rw [cellsOf3] at e0; replace e1 := (show (cs.drop 1).take (Try.prog.cellsOf 3) = _ from e1); rw [cellsOf3] at e1; replace e2 := (show (cs.drop 2).take (Try.prog.cellsOf 3) = _ from e2); rw [cellsOf3] at e2; replace e3 := (show (cs.drop 3).take (Try.prog.cellsOf 3) = _ from e3); rw [cellsOf3] at e3; replace e4 := (show (cs.drop 4).take (Try.prog.cellsOf 3) = _ from e4); rw [cellsOf3] at e4; replace e5 := (show (cs.drop 5).take (Try.prog.cellsOf 30) = _ from e5); rw [cellsOf30] at e5
  replace e6 := (show (cs.drop 6).take (Try.prog.cellsOf 3) = _ from e6); rw [cellsOf3] at e6; have d0 := cut_at cs 0 1 _ e0; rw [cut_at cs 1 1 _ e1, cut_at cs 2 1 _ e2, cut_at cs 3 1 _ e3, cut_at cs 4 1 _ e4, cut_at cs 5 1 _ e5, cut_at cs 6 1 _ e6, (show cs.drop (6 + 1) = [] from List.drop_eq_nil_of_le (by omega)), List.drop_zero] at d0
  obtain ⟨hn, l, hl, hnl⟩ := open_ints l5 (fun k hk => by
    refine hs k ?_; simp only [DataW.weights, Try.underlying32]
    exact DataW.weights_mem_each (j := 5) (t := 30) (d := (xs.getD 5 (.nil, [])).1) rfl (by rw [List.getElem?_map, at_ 5 (by omega)]; rfl) k hk)
  exact ⟨⟨a, b, c, d, g, f, l⟩, ao, n, c', d0, hl, hnl, hn, ⟨r2.2, r6.2, r4.1, r4.2⟩, r0, r1, r2, r3, r6⟩
end
end Go.Proofs.Ytgnkcmmpbohafaa
