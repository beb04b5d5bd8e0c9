/- Edges, what is wanted and calls that came in, as cells. -/
import Derived.Test.YtgnkcmmpbohafaaGNob
import Derived.Test.YtgnkcmmpbohafaaRows
import Derived.ProofKit
import Derived.OpenShut
import Derived.SizedLaws
import Derived.Deep.Slices
import Derived.Deep.SlicePairs
import Derived.WideShapes
namespace Go.Proofs.Ytgnkcmmpbohafaa
open Go.RowKit Go.ChangeShapes Go.WideShapes Go.ChangeAt
set_option linter.unusedVariables false
set_option linter.unusedSimpArgs false
set_option maxRecDepth 100000
theorem cellsOf3 : Try.prog.cellsOf 3 = 1 := by kernel_rfl
theorem cellsOf4 : Try.prog.cellsOf 4 = 1 := by kernel_rfl
theorem cellsOf30 : Try.prog.cellsOf 30 = 1 := by kernel_rfl
theorem cellsOf32 : Try.prog.cellsOf 32 = 7 := by kernel_rfl
theorem cellsOf43 : Try.prog.cellsOf 43 = 2 := by kernel_rfl
theorem cellsOf45 : Try.prog.cellsOf 45 = 5 := by kernel_rfl
theorem cellsOf47 : Try.prog.cellsOf 47 = 4 := by kernel_rfl
theorem cellsOf49 : Try.prog.cellsOf 49 = 13 := by kernel_rfl
theorem cellsOf60 : Try.prog.cellsOf 60 = 17 := by kernel_rfl
theorem bounds_i64 {z : Int} (h : (Lit.int .i64 z).wf = true) : -9223372036854775808 ≤ z ∧ z ≤ 9223372036854775807 := by
  simp [Lit.wf, IntKind.min, IntKind.max, IntKind.bits, IntKind.signed] at h
  omega
section
variable {H : Type} {enc : TypeId × Value → H} {w : World} {fuel : Nat} {cs : List Value} {x : DataW H × List MemPlace}
theorem open_num (h : DataW.trod enc Try.prog w 0 (fun _ => true) true fuel 3 cs = some x) : ∃ n, cs = [.int .i64 n] ∧ -9223372036854775808 ≤ n ∧ n ≤ 9223372036854775807 := by
  obtain ⟨n, h1, _, h2⟩ := DataW.trod_int Try.underlying3 h
  exact ⟨n, h1, bounds_i64 h2⟩
theorem open_bl (h : DataW.trod enc Try.prog w 0 (fun _ => true) true fuel 4 cs = some x) : ∃ b, cs = [.bool b] := by
  cases fuel with
  | zero => simp [DataW.trod] at h
  | succ n =>
    simp only [DataW.trod, Try.underlying4] at h
    split at h <;> simp_all
theorem open_sl (h : DataW.trod enc Try.prog w 0 (fun _ => true) true fuel 30 (cs) = some x) : ∃ ao n c, cs = [.slice ao n c] := by
  rcases Go.Deep.open_slice Try.underlying30 h with ⟨hcs, _⟩ | ⟨a, len, cap, m, k, D, Pl, hcs, _⟩
  · exact ⟨_, _, _, hcs⟩
  · exact ⟨_, _, _, hcs⟩
theorem cut_at (cs : List Value) (o n : Nat) (A : List Value) (h : (cs.drop o).take n = A) : cs.drop o = A ++ cs.drop (o + n) := by
  rw [← h, ← List.drop_drop, List.take_append_drop]
theorem open_fee (h : DataW.trod enc Try.prog w 0 (fun _ => true) true fuel 43 cs = some x) : ∃ a b : Int, cs = [.int .i64 a, .int .i64 b] ∧ (-9223372036854775808 ≤ a ∧ a ≤ 9223372036854775807) ∧ (-9223372036854775808 ≤ b ∧ b ≤ 9223372036854775807) := by
  obtain ⟨xs, m, _, rfl, hlen, hxl, hall⟩ := DataW.trod_struct Try.underlying43 h
  rw [cellsOf43] at hlen
  have hxl' : xs.length = 2 := hxl
  have at_ : ∀ i, i < 2 → xs[i]? = some (xs.getD i (.nil, [])) := fun i hi => by rw [List.getD_eq_getElem?_getD, List.getElem?_eq_getElem (by omega)]; rfl
  obtain ⟨a, e0, r0⟩ := open_num ((hall 0 _ rfl).trans (at_ 0 (by omega)))
  obtain ⟨b, e1, r1⟩ := open_num ((hall 1 _ rfl).trans (at_ 1 (by omega)))
  replace e0 := (show (cs.drop 0).take (Try.prog.cellsOf 3) = _ from e0)
  rw [cellsOf3] at e0
  replace e1 := (show (cs.drop 1).take (Try.prog.cellsOf 3) = _ from e1)
  rw [cellsOf3] at e1
  have d0 := cut_at cs 0 1 _ e0
  rw [cut_at cs 1 1 _ e1, (show cs.drop (1 + 1) = [] from List.drop_eq_nil_of_le (by omega)), List.drop_zero] at d0
  exact ⟨a, b, d0, r0, r1⟩
/-- rules, a past, an edge, what is wanted: in the machine's range -/
def Iw (z : Int) : Prop := -9223372036854775808 ≤ z ∧ z ≤ 9223372036854775807
theorem open_rules (h : DataW.trod enc Try.prog w 0 (fun _ => true) true fuel 45 cs = some x) : ∃ q : RV, cs = (RL q).toList ∧ Iw q.b ∧ Iw q.r ∧ Iw q.d ∧ Iw q.g ∧ Iw q.f := by
  obtain ⟨xs, m, _, rfl, hlen, hxl, hall⟩ := DataW.trod_struct Try.underlying45 h
  rw [cellsOf45] at hlen
  have hxl' : xs.length = 4 := hxl
  have at_ : ∀ i, i < 4 → xs[i]? = some (xs.getD i (.nil, [])) := fun i hi => by rw [List.getD_eq_getElem?_getD, List.getElem?_eq_getElem (by omega)]; rfl
  obtain ⟨b, r, e0, r0⟩ := open_fee ((hall 0 _ rfl).trans (at_ 0 (by omega)))
  obtain ⟨d, e1, r1⟩ := open_num ((hall 1 _ rfl).trans (at_ 1 (by omega)))
  obtain ⟨g, e2, r2⟩ := open_num ((hall 2 _ rfl).trans (at_ 2 (by omega)))
  obtain ⟨f, e3, r3⟩ := open_num ((hall 3 _ rfl).trans (at_ 3 (by omega)))
  replace e0 := (show (cs.drop 0).take (Try.prog.cellsOf 43) = _ from e0)
  rw [cellsOf43] at e0
  replace e1 := (show (cs.drop 2).take (Try.prog.cellsOf 3) = _ from e1)
  rw [cellsOf3] at e1
  replace e2 := (show (cs.drop 3).take (Try.prog.cellsOf 3) = _ from e2)
  rw [cellsOf3] at e2
  replace e3 := (show (cs.drop 4).take (Try.prog.cellsOf 3) = _ from e3)
  rw [cellsOf3] at e3
  have d0 := cut_at cs 0 2 _ e0
  rw [cut_at cs 2 1 _ e1, cut_at cs 3 1 _ e2, cut_at cs 4 1 _ e3, (show cs.drop (4 + 1) = [] from List.drop_eq_nil_of_le (by omega)), List.drop_zero] at d0
  exact ⟨⟨b, r, d, g, f⟩, d0, r0.1, r0.2, r1, r2, r3⟩
theorem open_past (h : DataW.trod enc Try.prog w 0 (fun _ => true) true fuel 47 cs = some x) : ∃ p : PV, cs = (PL p).toList ∧ Iw p.good ∧ Iw p.gat ∧ Iw p.bad ∧ Iw p.bat := by
  obtain ⟨xs, m, _, rfl, hlen, hxl, hall⟩ := DataW.trod_struct Try.underlying47 h
  rw [cellsOf47] at hlen
  have hxl' : xs.length = 4 := hxl
  have at_ : ∀ i, i < 4 → xs[i]? = some (xs.getD i (.nil, [])) := fun i hi => by rw [List.getD_eq_getElem?_getD, List.getElem?_eq_getElem (by omega)]; rfl
  obtain ⟨a, e0, r0⟩ := open_num ((hall 0 _ rfl).trans (at_ 0 (by omega)))
  obtain ⟨b, e1, r1⟩ := open_num ((hall 1 _ rfl).trans (at_ 1 (by omega)))
  obtain ⟨c, e2, r2⟩ := open_num ((hall 2 _ rfl).trans (at_ 2 (by omega)))
  obtain ⟨d, e3, r3⟩ := open_num ((hall 3 _ rfl).trans (at_ 3 (by omega)))
  replace e0 := (show (cs.drop 0).take (Try.prog.cellsOf 3) = _ from e0)
  rw [cellsOf3] at e0
  replace e1 := (show (cs.drop 1).take (Try.prog.cellsOf 3) = _ from e1)
  rw [cellsOf3] at e1
  replace e2 := (show (cs.drop 2).take (Try.prog.cellsOf 3) = _ from e2)
  rw [cellsOf3] at e2
  replace e3 := (show (cs.drop 3).take (Try.prog.cellsOf 3) = _ from e3)
  rw [cellsOf3] at e3
  have d0 := cut_at cs 0 1 _ e0
  rw [cut_at cs 1 1 _ e1, cut_at cs 2 1 _ e2, cut_at cs 3 1 _ e3, (show cs.drop (3 + 1) = [] from List.drop_eq_nil_of_le (by omega)), List.drop_zero] at d0
  exact ⟨⟨a, b, c, d⟩, d0, r0, r1, r2, r3⟩
theorem open_edge (h : DataW.trod enc Try.prog w 0 (fun _ => true) true fuel 49 cs = some x) : ∃ e : EV, cs = (EL e).toList ∧ Iw e.ch ∧ Iw e.fr ∧ Iw e.to ∧ Iw e.cap ∧ (Iw e.q.b ∧ Iw e.q.r ∧ Iw e.q.d ∧ Iw e.q.g ∧ Iw e.q.f) ∧ Iw e.p.good ∧ Iw e.p.gat ∧ Iw e.p.bad ∧ Iw e.p.bat := by
  obtain ⟨xs, m, _, rfl, hlen, hxl, hall⟩ := DataW.trod_struct Try.underlying49 h
  rw [cellsOf49] at hlen
  have hxl' : xs.length = 6 := hxl
  have at_ : ∀ i, i < 6 → xs[i]? = some (xs.getD i (.nil, [])) := fun i hi => by rw [List.getD_eq_getElem?_getD, List.getElem?_eq_getElem (by omega)]; rfl
  obtain ⟨a, e0, r0⟩ := open_num ((hall 0 _ rfl).trans (at_ 0 (by omega)))
  obtain ⟨b, e1, r1⟩ := open_num ((hall 1 _ rfl).trans (at_ 1 (by omega)))
  obtain ⟨c, e2, r2⟩ := open_num ((hall 2 _ rfl).trans (at_ 2 (by omega)))
  obtain ⟨d, e3, r3⟩ := open_num ((hall 3 _ rfl).trans (at_ 3 (by omega)))
  obtain ⟨q, e4, r4⟩ := open_rules ((hall 4 _ rfl).trans (at_ 4 (by omega)))
  obtain ⟨p, e5, r5⟩ := open_past ((hall 5 _ rfl).trans (at_ 5 (by omega)))
  replace e0 := (show (cs.drop 0).take (Try.prog.cellsOf 3) = _ from e0)
  rw [cellsOf3] at e0
  replace e1 := (show (cs.drop 1).take (Try.prog.cellsOf 3) = _ from e1)
  rw [cellsOf3] at e1
  replace e2 := (show (cs.drop 2).take (Try.prog.cellsOf 3) = _ from e2)
  rw [cellsOf3] at e2
  replace e3 := (show (cs.drop 3).take (Try.prog.cellsOf 3) = _ from e3)
  rw [cellsOf3] at e3
  replace e4 := (show (cs.drop 4).take (Try.prog.cellsOf 45) = _ from e4)
  rw [cellsOf45] at e4
  replace e5 := (show (cs.drop 9).take (Try.prog.cellsOf 47) = _ from e5)
  rw [cellsOf47] at e5
  have d0 := cut_at cs 0 1 _ e0
  rw [cut_at cs 1 1 _ e1, cut_at cs 2 1 _ e2, cut_at cs 3 1 _ e3, cut_at cs 4 5 _ e4, cut_at cs 9 4 _ e5, (show cs.drop (9 + 4) = [] from List.drop_eq_nil_of_le (by omega)), List.drop_zero] at d0
  exact ⟨⟨a, b, c, d, q, p⟩, d0, r0, r1, r2, r3, r4, r5⟩
theorem open_want (h : DataW.trod enc Try.prog w 0 (fun _ => true) true fuel 32 cs = some x) : ∃ (v : WV) (ao : Option Addr) (n c : Nat), cs = (WL_ v ao n c).toList ∧ Iw v.fr ∧ Iw v.to ∧ Iw v.am ∧ Iw v.la ∧ Iw v.ti ∧ Iw v.mo := by
  obtain ⟨xs, m, _, rfl, hlen, hxl, hall⟩ := DataW.trod_struct Try.underlying32 h
  rw [cellsOf32] at hlen
  have hxl' : xs.length = 7 := hxl
  have at_ : ∀ i, i < 7 → xs[i]? = some (xs.getD i (.nil, [])) := fun i hi => by rw [List.getD_eq_getElem?_getD, List.getElem?_eq_getElem (by omega)]; rfl
  obtain ⟨a, e0, r0⟩ := open_num ((hall 0 _ rfl).trans (at_ 0 (by omega)))
  obtain ⟨b, e1, r1⟩ := open_num ((hall 1 _ rfl).trans (at_ 1 (by omega)))
  obtain ⟨c, e2, r2⟩ := open_num ((hall 2 _ rfl).trans (at_ 2 (by omega)))
  obtain ⟨d, e3, r3⟩ := open_num ((hall 3 _ rfl).trans (at_ 3 (by omega)))
  obtain ⟨f, e4, r4⟩ := open_num ((hall 4 _ rfl).trans (at_ 4 (by omega)))
  obtain ⟨ao, n, c', e5⟩ := open_sl ((hall 5 _ rfl).trans (at_ 5 (by omega)))
  obtain ⟨g, e6, r6⟩ := open_num ((hall 6 _ rfl).trans (at_ 6 (by omega)))
  replace e0 := (show (cs.drop 0).take (Try.prog.cellsOf 3) = _ from e0)
  rw [cellsOf3] at e0
  replace e1 := (show (cs.drop 1).take (Try.prog.cellsOf 3) = _ from e1)
  rw [cellsOf3] at e1
  replace e2 := (show (cs.drop 2).take (Try.prog.cellsOf 3) = _ from e2)
  rw [cellsOf3] at e2
  replace e3 := (show (cs.drop 3).take (Try.prog.cellsOf 3) = _ from e3)
  rw [cellsOf3] at e3
  replace e4 := (show (cs.drop 4).take (Try.prog.cellsOf 3) = _ from e4)
  rw [cellsOf3] at e4
  replace e5 := (show (cs.drop 5).take (Try.prog.cellsOf 30) = _ from e5)
  rw [cellsOf30] at e5
  replace e6 := (show (cs.drop 6).take (Try.prog.cellsOf 3) = _ from e6)
  rw [cellsOf3] at e6
  have d0 := cut_at cs 0 1 _ e0
  rw [cut_at cs 1 1 _ e1, cut_at cs 2 1 _ e2, cut_at cs 3 1 _ e3, cut_at cs 4 1 _ e4, cut_at cs 5 1 _ e5, cut_at cs 6 1 _ e6, (show cs.drop (6 + 1) = [] from List.drop_eq_nil_of_le (by omega)), List.drop_zero] at d0
  exact ⟨⟨a, b, c, d, g, f, []⟩, ao, n, c', d0, r0, r1, r2, r3, r4, r6⟩
theorem open_op (h : DataW.trod enc Try.prog w 0 (fun _ => true) true fuel 60 cs = some x) : ∃ p : OV, cs = (OL p).toList ∧ Iw p.kd ∧ Iw p.n ∧ Iw p.ti := by
  obtain ⟨xs, m, _, rfl, hlen, hxl, hall⟩ := DataW.trod_struct Try.underlying60 h
  rw [cellsOf60] at hlen
  have hxl' : xs.length = 5 := hxl
  have at_ : ∀ i, i < 5 → xs[i]? = some (xs.getD i (.nil, [])) := fun i hi => by rw [List.getD_eq_getElem?_getD, List.getElem?_eq_getElem (by omega)]; rfl
  obtain ⟨a, e0, r0⟩ := open_num ((hall 0 _ rfl).trans (at_ 0 (by omega)))
  obtain ⟨e, e1, r1⟩ := open_edge ((hall 1 _ rfl).trans (at_ 1 (by omega)))
  obtain ⟨b, e2, r2⟩ := open_num ((hall 2 _ rfl).trans (at_ 2 (by omega)))
  obtain ⟨c, e3, r3⟩ := open_num ((hall 3 _ rfl).trans (at_ 3 (by omega)))
  obtain ⟨d, e4⟩ := open_bl ((hall 4 _ rfl).trans (at_ 4 (by omega)))
  replace e0 := (show (cs.drop 0).take (Try.prog.cellsOf 3) = _ from e0)
  rw [cellsOf3] at e0
  replace e1 := (show (cs.drop 1).take (Try.prog.cellsOf 49) = _ from e1)
  rw [cellsOf49] at e1
  replace e2 := (show (cs.drop 14).take (Try.prog.cellsOf 3) = _ from e2)
  rw [cellsOf3] at e2
  replace e3 := (show (cs.drop 15).take (Try.prog.cellsOf 3) = _ from e3)
  rw [cellsOf3] at e3
  replace e4 := (show (cs.drop 16).take (Try.prog.cellsOf 4) = _ from e4)
  rw [cellsOf4] at e4
  have d0 := cut_at cs 0 1 _ e0
  rw [cut_at cs 1 13 _ e1, cut_at cs 14 1 _ e2, cut_at cs 15 1 _ e3, cut_at cs 16 1 _ e4, (show cs.drop (16 + 1) = [] from List.drop_eq_nil_of_le (by omega)), List.drop_zero] at d0
  exact ⟨⟨a, e, b, c, d⟩, d0, r0, r2, r3⟩
end
end Go.Proofs.Ytgnkcmmpbohafaa
