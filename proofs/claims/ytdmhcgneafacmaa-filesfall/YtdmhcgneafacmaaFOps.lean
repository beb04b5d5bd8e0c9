/- A slice of calls that came in, opened. -/
import Derived.Test.YtdmhcgneafacmaaFBase
import Derived.ProofKit
import Derived.OpenShut
import Derived.WideShapes
import Derived.Deep.Slices
namespace Go.Proofs.Ytdmhcgneafacmaa
open Go.ChangeShapes Go.WideShapes Go.ChangeAt Go.RowKit Go.Deep
set_option linter.unusedVariables false
set_option linter.unusedSimpArgs false
set_option maxRecDepth 100000

theorem ops33 : Try.prog.cellsOf 33 = 6 := by kernel_rfl
theorem ops3 : Try.prog.cellsOf 3 = 1 := by kernel_rfl
theorem ops9 : Try.prog.cellsOf 9 = 1 := by kernel_rfl
theorem ops31 : Try.prog.cellsOf 31 = 1 := by kernel_rfl
/-- one call: what it is, its names, its bytes, its numbers -/
structure Cal where
  kind : Int
  s : ByteArray
  t : ByteArray
  ao : Option Addr
  n : Nat
  cap : Nat
  x : Int
  y : Int
  zs : List Int
def Cal.cells (q : Cal) : List Value := [.int .i64 q.kind, .string q.s, .string q.t, .slice q.ao q.n q.cap, .int .i64 q.x, .int .i64 q.y]
structure Cal.Fits (w : World) (q : Cal) : Prop where
  ss : q.s.size ≤ 9223372036854775807
  ts : q.t.size ≤ 9223372036854775807
  len : q.zs.length = q.n
  bytes : IsB w q.ao q.cap q.zs
  cap : q.n ≤ q.cap
  most : q.cap ≤ 9223372036854775807
  num : q.x ≤ 9223372036854775807
section
variable {H : Type} {enc : TypeId × Value → H} {w : World} {fuel : Nat} {cs : List Value} {x : DataW H × List MemPlace}
theorem bytes_of {v : Value} (h : DataW.trod enc Try.prog w 0 (fun _ => true) true fuel 31 [v] = some x) : ∃ (ao : Option Addr) (n cap : Nat) (zs : List Int), v = .slice ao n cap ∧ zs.length = n ∧ IsB w ao cap zs ∧ n ≤ cap ∧ cap ≤ 9223372036854775807 := by
  rcases open_ints Try.underlying31 Try.underlying5 (by kernel_rfl) h with ⟨hcs, _⟩ | ⟨p, l, c, zs, hcs, _, hl, hm, hz, _, hc, _⟩
  · simp at hcs
    exact ⟨none, 0, 0, [], hcs, rfl, .inl ⟨rfl, rfl, rfl⟩, by omega, by omega⟩
  · simp at hcs
    have hz' : zs.length = c := by simpa using hz
    have hlen : (zs.take l).length = l := by rw [List.length_take]; omega
    unfold maxLen at hm
    refine ⟨some p, l, c, zs.take l, hcs, hlen, .inr ⟨p, rfl, fun j u hu => ?_⟩, hl, by omega⟩
    have hj : j < l := by
      have := (List.getElem?_eq_some_iff.1 hu).1
      rw [U8_length, hlen] at this
      exact this
    have e1 : U8 (zs.take l) = (U8 zs).take l := by simp [U8]
    rw [e1, List.getElem?_take, if_pos hj] at hu
    have e2 : (U8 zs)[j]? = some (.int .u8 (zs.getD j 0)) := by
      simp [U8, List.getElem?_map, List.getElem?_eq_getElem (show j < zs.length by omega), List.getD_eq_getElem?_getD]
    rw [e2] at hu
    cases hu
    exact hc j (by omega)
theorem open_cal (h : DataW.trod enc Try.prog w 0 (fun _ => true) true fuel 33 cs = some x) : ∃ q : Cal, cs = q.cells ∧ q.Fits w := by
  obtain ⟨xs, m, _, rfl, hlen, hxl, hall⟩ := DataW.trod_struct Try.underlying33 h
  rw [ops33] at hlen
  have hxl' : xs.length = 6 := hxl
  have at_ : ∀ i, i < 6 → xs[i]? = some (xs.getD i (.nil, [])) := fun i hi => by rw [List.getD_eq_getElem?_getD, List.getElem?_eq_getElem (by omega)]; rfl
  match cs, hlen with
  | [c0, c1, c2, c3, c4, c5], _ =>
    obtain ⟨k, e0, _, _⟩ := DataW.trod_int Try.underlying3 ((hall 0 _ rfl).trans (at_ 0 (by omega)))
    obtain ⟨s, e1, _, hs⟩ := DataW.trod_string Try.underlying9 ((hall 1 _ rfl).trans (at_ 1 (by omega)))
    obtain ⟨t, e2, _, ht⟩ := DataW.trod_string Try.underlying9 ((hall 2 _ rfl).trans (at_ 2 (by omega)))
    have h3 := (hall 3 _ rfl).trans (at_ 3 (by omega))
    obtain ⟨a, e4, _, wa⟩ := DataW.trod_int Try.underlying3 ((hall 4 _ rfl).trans (at_ 4 (by omega)))
    obtain ⟨b, e5, _, _⟩ := DataW.trod_int Try.underlying3 ((hall 5 _ rfl).trans (at_ 5 (by omega)))
    unfold maxLen at hs ht
    replace e0 := (show ([c0, c1, c2, c3, c4, c5].drop 0).take (Try.prog.cellsOf 3) = [.int .i64 k] from e0)
    replace e1 := (show ([c0, c1, c2, c3, c4, c5].drop 1).take (Try.prog.cellsOf 9) = [.string s] from e1)
    replace e2 := (show ([c0, c1, c2, c3, c4, c5].drop 2).take (Try.prog.cellsOf 9) = [.string t] from e2)
    replace e4 := (show ([c0, c1, c2, c3, c4, c5].drop 4).take (Try.prog.cellsOf 3) = [.int .i64 a] from e4)
    replace e5 := (show ([c0, c1, c2, c3, c4, c5].drop 5).take (Try.prog.cellsOf 3) = [.int .i64 b] from e5)
    rw [ops3] at e0 e4 e5
    rw [ops9] at e1 e2
    simp at e0 e1 e2 e4 e5
    have h3' : DataW.trod enc Try.prog w 0 (fun _ => true) true m 31 (([c0, c1, c2, c3, c4, c5].drop 3).take (Try.prog.cellsOf 31)) = some (xs.getD 3 (.nil, [])) := h3
    rw [ops31] at h3'
    obtain ⟨ao, n, cap, zs, e3, z1, z2, z3, z4⟩ := bytes_of (v := c3) h3'
    exact ⟨⟨k, s, t, ao, n, cap, a, b, zs⟩, by unfold Cal.cells; rw [e0, e1, e2, e3, e4, e5], ⟨by simp only; omega, by simp only; omega, z1, z2, z3, z4, (bounds_i64 wa).2⟩⟩
/-- a slice of calls that came in -/
def IsOps (w : World) (ao : Option Addr) (len cap : Nat) : Prop :=
  len ≤ cap ∧ cap ≤ 9223372036854775807 ∧ ∃ (b off : Nat), (0 < len → ao = some ⟨b, off, none⟩) ∧ ∀ i, i < len → ∃ q : Cal, q.Fits w ∧ ∀ j u, q.cells[j]? = some u → w.cell? ⟨b, off + i * 6 + j, none⟩ = some u
theorem open_ops {ao : Option Addr} {len cap : Nat} (h : DataW.trod enc Try.prog w 0 (fun _ => true) true fuel 22 [.slice ao len cap] = some x) : IsOps w ao len cap := by
  rcases open_slice Try.underlying22 h with ⟨hcs, _⟩ | ⟨a, l, c, m, n, D, Pl, hcs, _, hl, hm, hmm, _, hall⟩
  · simp at hcs
    obtain ⟨rfl, rfl, rfl⟩ := hcs
    exact ⟨Nat.le_refl _, by omega, 0, 0, fun h => by omega, fun i hi => by omega⟩
  · simp at hcs
    obtain ⟨rfl, rfl, rfl⟩ := hcs
    have hm' : m = cap := by simpa using hmm
    subst hm'
    unfold maxLen at hm
    by_cases h0 : len = 0
    · exact ⟨hl, by omega, 0, 0, fun h => by omega, fun i hi => by omega⟩
    · obtain ⟨b, off, spot⟩ := a
      have hsp : spot = none := by
        obtain ⟨cs', h1, h2⟩ := hall 0 (by omega)
        rw [ops33] at h1
        obtain ⟨_, hlen, hcell⟩ := World.cells?_some h1
        have hc := hcell 0 (by omega)
        rw [List.getElem?_eq_getElem (by omega)] at hc
        simpa [Addr.add] using World.cell?_spot hc
      subst hsp
      refine ⟨hl, by omega, b, off, fun _ => rfl, fun i hi => ?_⟩
      obtain ⟨cs', h1, h2⟩ := hall i (by omega)
      rw [ops33] at h1
      obtain ⟨_, hlen, hcell⟩ := World.cells?_some h1
      obtain ⟨q, rfl, hf⟩ := open_cal h2
      refine ⟨q, hf, fun j u hu => ?_⟩
      have hj : j < 6 := by
        have := (List.getElem?_eq_some_iff.1 hu).1
        simpa [Cal.cells] using this
      have := hcell j hj
      rw [add_plain, add_plain, hu] at this
      exact this
end
end Go.Proofs.Ytdmhcgneafacmaa
