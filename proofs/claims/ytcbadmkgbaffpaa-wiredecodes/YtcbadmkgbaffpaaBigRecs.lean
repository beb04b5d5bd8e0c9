/- Slices of records that came in, opened. -/
import Derived.Test.YtcbadmkgbaffpaaBigFind
import Derived.ProofKit
import Derived.OpenShut
import Derived.SizedLaws
import Derived.Deep.SlicePairs
namespace Go.Proofs.Ytcbadmkgbaffpaa
open Go.ChangeShapes Go.WideShapes Go.ChangeAt Go.RowKit Go.Deep
set_option linter.unusedVariables false

theorem recCells : Try.prog.cellsOf 39 = 2 := by kernel_rfl
theorem recBytes : Try.prog.bytesOf 39 = 32 := by kernel_rfl
theorem u8Bytes : Try.prog.bytesOf 5 = 1 := by kernel_rfl

theorem weights_all {H : Type} {P : Program} {e : TypeId} : ∀ {l : List (DataW H)} {d : DataW H}, d ∈ l → ∀ n ∈ d.weights P e, n ∈ DataW.weightsAll P e l
  | x :: r, d, hd, n, hn => by
    simp only [DataW.weightsAll, List.mem_append]
    rcases List.mem_cons.1 hd with rfl | h
    · exact .inl hn
    · exact .inr (weights_all h n hn)

/-- what is told of one record -/
structure IsRec (w : World) (v0 v1 : Value) (q : Int × Option Addr × Nat × List Int) : Prop where
  type : v0 = .int .u64 q.1
  value : v1 = .slice q.2.1 q.2.2.2.length q.2.2.1
  bytes : IsB w q.2.1 q.2.2.1 q.2.2.2
  len : q.2.2.2.length ≤ q.2.2.1
  cap : q.2.2.1 ≤ 140737488351232
  tlo : 0 ≤ q.1
  thi : q.1 ≤ 18446744073709551615
  each : ∀ k, k < q.2.2.2.length → 0 ≤ q.2.2.2.getD k 0 ∧ q.2.2.2.getD k 0 ≤ 255

theorem open_bytes {H : Type} {enc : TypeId × Value → H} {w : World} {n : Nat} {v : Value} {x : DataW H × List MemPlace} (h : DataW.trod enc Try.prog w 0 (fun _ => true) true n 23 [v] = some x)
    (hs : ∀ m ∈ x.1.weights Try.prog 23, m ≤ reachBytes) : ∃ (ao : Option Addr) (len cap : Nat) (zs : List Int), v = .slice ao len cap ∧ IsRow .u8 1 w ao len cap zs := by
  rcases open_ints Try.underlying23 Try.underlying5 (by kernel_rfl) h with ⟨hcs, _⟩ | ⟨a, l, c, zs, hcs, _, hl, hm, hz, hx, hcell, hwz⟩
  · simp at hcs
    exact ⟨none, 0, 0, [], hcs, .inl ⟨rfl, rfl, rfl, rfl⟩⟩
  · simp at hcs
    subst hx
    have hr := hs _ (by simp only [DataW.weights, Try.underlying23]; exact List.mem_cons_self ..)
    rw [u8Bytes] at hr
    simp only [lits, List.length_map, List.length_take, List.length_drop, reachBytes] at hr
    have hz' : zs.length = c := by simpa using hz
    exact ⟨some a, l, c, zs, hcs, .inr ⟨a, rfl, hl, hm, hz', by omega, hcell, hwz⟩⟩

theorem open_rec {H : Type} {enc : TypeId × Value → H} {w : World} {n : Nat} {v0 v1 : Value} {d0 d1 : DataW H} {p0 p1 : List MemPlace} (h0 : DataW.trod enc Try.prog w 0 (fun _ => true) true n 36 [v0] = some (d0, p0))
    (h1 : DataW.trod enc Try.prog w 0 (fun _ => true) true n 23 [v1] = some (d1, p1)) (hs : ∀ m ∈ d1.weights Try.prog 23, m ≤ reachBytes) : ∃ q, IsRec w v0 v1 q := by
  obtain ⟨a, e0, _, wa⟩ := DataW.trod_int Try.underlying36 h0
  simp at e0
  obtain ⟨t0, t1⟩ := bounds_u64 wa
  obtain ⟨ao, len, cap, zs, e1, hrow⟩ := open_bytes h1 hs
  obtain ⟨L, rfl, hB, l1, l2, l3⟩ := row_isB hrow
  exact ⟨(a, ao, cap, L), ⟨e0, e1, hB, l1, l2, t0, t1, l3⟩⟩

/-- a slice of records that came in -/
def IsRecs (w : World) (ao : Option Addr) (len cap : Nat) : Prop :=
  (len = 0 ∧ (ao = none → cap = 0)) ∨ ∃ (b off : Nat) (q : Nat → Int × Option Addr × Nat × List Int), ao = some ⟨b, off, none⟩ ∧ 0 < len ∧ len ≤ cap ∧ cap * 32 ≤ 140737488351232 ∧
    Recs w b off len (fun k => (q k).1) (fun k => (q k).2.1) (fun k => (q k).2.2.1) (fun k => (q k).2.2.2) ∧
    (∀ k, k < len → (q k).2.2.2.length ≤ (q k).2.2.1 ∧ (q k).2.2.1 ≤ 140737488351232 ∧ 0 ≤ (q k).1 ∧ (q k).1 ≤ 18446744073709551615) ∧
    ∀ k, k < len → ∀ j, j < (q k).2.2.2.length → 0 ≤ (q k).2.2.2.getD j 0 ∧ (q k).2.2.2.getD j 0 ≤ 255

theorem open_recs {H : Type} {enc : TypeId × Value → H} {w : World} {fuel : Nat} {ao : Option Addr} {len cap : Nat} {x : DataW H × List MemPlace} (h : DataW.trod enc Try.prog w 0 (fun _ => true) true fuel 40 [.slice ao len cap] = some x)
    (hs : ∀ m ∈ x.1.weights Try.prog 40, m ≤ reachBytes) : IsRecs w ao len cap := by
  rcases open_slice_pairs Try.underlying40 Try.underlying39 recCells rfl rfl (by kernel_rfl) (by kernel_rfl) h with ⟨hcs, _⟩ | ⟨a, l, c, m, n, V0, V1, D0, D1, P0, P1, hcs, _, hl, hm, hmm, rfl, hall⟩
  · simp at hcs
    exact .inl ⟨hcs.2.1, fun _ => hcs.2.2⟩
  · simp at hcs
    obtain ⟨rfl, rfl, rfl⟩ := hcs
    have hm' : m = cap := by simpa using hmm
    subst hm'
    by_cases h0 : len = 0
    · exact .inl ⟨h0, fun h => by cases h⟩
    · right
      have hr := hs _ (by simp only [DataW.weights, Try.underlying40]; exact List.mem_cons_self ..)
      rw [recBytes] at hr
      simp only [List.length_map, List.length_range, reachBytes] at hr
      have each : ∀ i, i < len → ∃ q, IsRec w (V0 i) (V1 i) q := fun i hi => by
        obtain ⟨_, _, g0, g1⟩ := hall i (by omega)
        refine open_rec g0 g1 fun k hk => hs k ?_
        have hmem : (DataW.agg [D0 i, D1 i]) ∈ (List.range len).map fun i => DataW.agg [D0 i, D1 i] := List.mem_map.2 ⟨i, List.mem_range.2 hi, rfl⟩
        simp only [DataW.weights, Try.underlying40]
        refine List.mem_cons_of_mem _ (List.mem_append_left _ (weights_all hmem k ?_))
        simp only [DataW.weights, Try.underlying39, DataW.weightsEach, List.map_cons, List.mem_append]
        exact .inr (.inl hk)
      obtain ⟨q, hq⟩ := choose_lt each
      obtain ⟨b, off, spot⟩ := a
      have hsp : spot = none := by
        have h := (hall 0 (by omega)).1
        simpa [Addr.add] using World.cell?_spot h
      subst hsp
      have c0 : ∀ k, k < len → w.cell? ⟨b, off + k * 2, none⟩ = some (.int .u64 (q k).1) := fun k hk => by
        have h := (hall k (by omega)).1
        rw [addr_add, (hq k hk).type] at h
        exact h
      have c1 : ∀ k, k < len → w.cell? ⟨b, off + k * 2 + 1, none⟩ = some (.slice (q k).2.1 (q k).2.2.2.length (q k).2.2.1) := fun k hk => by
        have h := (hall k (by omega)).2.1
        rw [addr_add, (hq k hk).value, ← Nat.add_assoc] at h
        exact h
      exact ⟨b, off, q, rfl, by omega, hl, by omega, ⟨block_lt_of_cell (c0 0 (by omega)), c0, c1, fun k hk => (hq k hk).bytes⟩, fun k hk => ⟨(hq k hk).len, (hq k hk).cap, (hq k hk).tlo, (hq k hk).thi⟩, fun k hk => (hq k hk).each⟩
end Go.Proofs.Ytcbadmkgbaffpaa
