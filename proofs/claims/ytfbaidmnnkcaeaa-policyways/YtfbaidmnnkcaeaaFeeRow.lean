/- Slices of fees that came in, opened. -/
import Derived.Test.YtfbaidmnnkcaeaaAmtFee
import Derived.ProofKit
import Derived.OpenShut
import Derived.SizedLaws
import Derived.Deep.SlicePairs
namespace Go.Proofs.Ytfbaidmnnkcaeaa
open Go.ChangeShapes Go.WideShapes Go.ChangeAt Go.RowKit Go.Deep
set_option linter.unusedVariables false

theorem feeCells : Try.prog.cellsOf 23 = 2 := by kernel_rfl
theorem feeBytes : Try.prog.bytesOf 23 = 16 := by kernel_rfl
theorem addr_add (b o k : Nat) : (⟨b, o, none⟩ : Addr).add k = ⟨b, o + k, none⟩ := by unfold Addr.add; split <;> simp_all

/-- fees that lie in memory -/
structure Fees (w : World) (b off len : Nat) (fb fr : Nat → Int) : Prop where
  lt : b < w.heap.size
  base : ∀ k, k < len → w.cell? ⟨b, off + k * 2, none⟩ = some (.int .i64 (fb k))
  rate : ∀ k, k < len → w.cell? ⟨b, off + k * 2 + 1, none⟩ = some (.int .i64 (fr k))
theorem Fees.below {w w' : World} {b off len : Nat} {fb fr : Nat → Int} (h : Fees w b off len fb fr) (hb : Below w.heap.size w w') : Fees w' b off len fb fr :=
  ⟨Nat.lt_of_lt_of_le h.lt hb.size, fun k hk => (hb.cell (by exact h.lt)).trans (h.base k hk), fun k hk => (hb.cell (by exact h.lt)).trans (h.rate k hk)⟩

/-- a slice of fees that came in -/
def IsFeess (w : World) (ao : Option Addr) (len cap : Nat) : Prop :=
  (len = 0 ∧ (ao = none → cap = 0)) ∨ ∃ (b off : Nat) (fb fr : Nat → Int), ao = some ⟨b, off, none⟩ ∧ 0 < len ∧ len ≤ cap ∧ cap * 16 ≤ 140737488351232 ∧ Fees w b off len fb fr ∧
    ∀ k, k < len → -9223372036854775808 ≤ fb k ∧ fb k ≤ 9223372036854775807 ∧ -9223372036854775808 ≤ fr k ∧ fr k ≤ 9223372036854775807

theorem open_feess {H : Type} {enc : TypeId × Value → H} {w : World} {fuel : Nat} {ao : Option Addr} {len cap : Nat} {x : DataW H × List MemPlace} (h : DataW.trod enc Try.prog w 0 (fun _ => true) true fuel 41 [.slice ao len cap] = some x)
    (hs : ∀ m ∈ x.1.weights Try.prog 41, m ≤ reachBytes) : IsFeess w ao len cap := by
  rcases open_slice_pairs Try.underlying41 Try.underlying23 feeCells rfl rfl (by kernel_rfl) (by kernel_rfl) h with ⟨hcs, _⟩ | ⟨a, l, c, m, n, V0, V1, D0, D1, P0, P1, hcs, _, hl, hm, hmm, rfl, hall⟩
  · simp at hcs
    exact .inl ⟨hcs.2.1, fun _ => hcs.2.2⟩
  · simp at hcs
    obtain ⟨rfl, rfl, rfl⟩ := hcs
    have hm' : m = cap := by simpa using hmm
    subst hm'
    by_cases h0 : len = 0
    · exact .inl ⟨h0, fun h => by cases h⟩
    · right
      have hr := hs _ (by simp only [DataW.weights, Try.underlying41]; exact List.mem_cons_self ..)
      rw [feeBytes] at hr
      simp only [List.length_map, List.length_range, reachBytes] at hr
      have each : ∀ i, i < len → ∃ q : Int × Int, V0 i = .int .i64 q.1 ∧ V1 i = .int .i64 q.2 ∧ (-9223372036854775808 ≤ q.1 ∧ q.1 ≤ 9223372036854775807) ∧ (-9223372036854775808 ≤ q.2 ∧ q.2 ≤ 9223372036854775807) := fun i hi => by
        obtain ⟨_, _, g0, g1⟩ := hall i (by omega)
        obtain ⟨a0, e0, _, w0⟩ := DataW.trod_int Try.underlying3 g0
        obtain ⟨a1, e1, _, w1⟩ := DataW.trod_int Try.underlying3 g1
        simp at e0 e1
        exact ⟨(a0, a1), e0, e1, bounds_i64 w0, bounds_i64 w1⟩
      obtain ⟨q, hq⟩ := choose_lt each
      obtain ⟨b, off, spot⟩ := a
      have hsp : spot = none := by
        have h := (hall 0 (by omega)).1
        simpa [Addr.add] using World.cell?_spot h
      subst hsp
      have c0 : ∀ k, k < len → w.cell? ⟨b, off + k * 2, none⟩ = some (.int .i64 (q k).1) := fun k hk => by
        have h := (hall k (by omega)).1
        rw [addr_add, (hq k hk).1] at h
        exact h
      have c1 : ∀ k, k < len → w.cell? ⟨b, off + k * 2 + 1, none⟩ = some (.int .i64 (q k).2) := fun k hk => by
        have h := (hall k (by omega)).2.1
        rw [addr_add, (hq k hk).2.1, ← Nat.add_assoc] at h
        exact h
      exact ⟨b, off, fun k => (q k).1, fun k => (q k).2, rfl, by omega, hl, by omega, ⟨block_lt_of_cell (c0 0 (by omega)), c0, c1⟩, fun k hk => ⟨(hq k hk).2.2.1.1, (hq k hk).2.2.1.2, (hq k hk).2.2.2.1, (hq k hk).2.2.2.2⟩⟩

/-- ints as values -/
def I64 (zs : List Int) : List Value := zs.map (Value.int .i64)
theorem I64_append (a b : List Int) : I64 (a ++ b) = I64 a ++ I64 b := by simp [I64]
theorem I64_length (a : List Int) : (I64 a).length = a.length := by simp [I64]
theorem one_i64 (zs : List Int) : ∀ u ∈ I64 zs, u.oneCell' = true := by
  intro u hu
  simp [I64] at hu
  obtain ⟨a, _, rfl⟩ := hu
  rfl
theorem I64_at (zs : List Int) (k : Nat) (h : k < zs.length) : (I64 zs)[k]? = some (.int .i64 (zs.getD k 0)) := by
  simp [I64, List.getElem?_map, List.getElem?_eq_getElem h, List.getD_eq_getElem?_getD]

/-- what stands ahead, hop by hop from the end: the value behind j hops, and the error of the next -/
def wv (fb fr : Nat → Int) (n : Nat) (x : Int) : Nat → Int
  | 0 => x
  | j + 1 => inN (fb (n - 1 - j)) (fr (n - 1 - j)) (wv fb fr n x j)
def we (fb fr : Nat → Int) (n : Nat) (x : Int) (j : Nat) : Int := inE (fb (n - 1 - j)) (fr (n - 1 - j)) (wv fb fr n x j)
/-- the way behind m hops, the last ahead -/
def wl (fb fr : Nat → Int) (n : Nat) (x : Int) : Nat → List Int
  | 0 => [x]
  | m + 1 => wv fb fr n x (m + 1) :: wl fb fr n x m
theorem wl_length (fb fr : Nat → Int) (n : Nat) (x : Int) (m : Nat) : (wl fb fr n x m).length = m + 1 := by
  induction m with
  | zero => rfl
  | succ m ih => show (wl fb fr n x m).length + 1 = _; rw [ih]
theorem wl_head (fb fr : Nat → Int) (n : Nat) (x : Int) (m : Nat) : (wl fb fr n x m).getD 0 0 = wv fb fr n x m := by
  cases m <;> rfl
theorem inN_bd (b r x : Int) (hb : b ≤ 9223372036854775807) (hx : x ≤ 9223372036854775807) : 0 ≤ inN b r x ∧ inN b r x ≤ 9223372036854775807 := by
  have h := feeN_le b r x hb hx
  unfold inN addN
  repeat' split
  all_goals omega
theorem wv_bd (fb fr : Nat → Int) (n : Nat) (x : Int) (m : Nat) (hm : m ≤ n) (hb : ∀ k, k < n → fb k ≤ 9223372036854775807) (h0 : 0 ≤ x) (h1 : x ≤ 9223372036854775807) : 0 ≤ wv fb fr n x m ∧ wv fb fr n x m ≤ 9223372036854775807 := by
  induction m with
  | zero => exact ⟨h0, h1⟩
  | succ m ih => exact inN_bd _ _ _ (hb _ (by omega)) (ih (by omega)).2
end Go.Proofs.Ytfbaidmnnkcaeaa
