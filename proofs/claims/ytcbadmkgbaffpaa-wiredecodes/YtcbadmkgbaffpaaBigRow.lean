/- Slices of bytes that came in, as the contracts ask them. -/
import Derived.Test.YtcbadmkgbaffpaaBigMath
import Derived.OpenShut
namespace Go.Proofs.Ytcbadmkgbaffpaa
open Go.RowKit
set_option linter.unusedVariables false

/-- a slice of numbers that came in: nil, or a row of cells -/
def IsRow (k : IntKind) (size : Nat) (w : World) (a : Option Addr) (len cap : Nat) (zs : List Int) : Prop :=
  (a = none ∧ len = 0 ∧ cap = 0 ∧ zs = []) ∨
  ∃ x, a = some x ∧ len ≤ cap ∧ cap ≤ maxLen ∧ zs.length = cap ∧ cap * size ≤ 140737488351232 ∧ (∀ i, i < zs.length → w.cell? (x.add i) = some (.int k (zs.getD i 0))) ∧ ∀ n ∈ zs, (Lit.int k n).wf = true

/-- such bytes, as the contracts ask them -/
theorem row_isB {w : World} {a : Option Addr} {len cap : Nat} {zs : List Int} (h : IsRow .u8 1 w a len cap zs) :
    ∃ L : List Int, L.length = len ∧ IsB w a cap L ∧ len ≤ cap ∧ cap ≤ 140737488351232 ∧ ∀ k, k < L.length → 0 ≤ L.getD k 0 ∧ L.getD k 0 ≤ 255 := by
  rcases h with ⟨rfl, rfl, rfl, rfl⟩ | ⟨x, rfl, hl, hm, hz, hr, hc, hw⟩
  · exact ⟨[], rfl, .inl ⟨rfl, rfl, rfl⟩, by omega, by omega, fun k hk => absurd hk (Nat.not_lt_zero _)⟩
  · have hlen : (zs.take len).length = len := by rw [List.length_take]; omega
    have hget : ∀ k, k < len → (zs.take len).getD k 0 = zs.getD k 0 := fun k hk => by
      rw [List.getD_eq_getElem?_getD, List.getD_eq_getElem?_getD, List.getElem?_take, if_pos hk]
    refine ⟨zs.take len, hlen, .inr ⟨x, rfl, fun j u hu => ?_⟩, hl, by omega, fun k hk => ?_⟩
    · have hj : j < len := by
        have := (List.getElem?_eq_some_iff.1 hu).1
        rw [U8_length, hlen] at this
        exact this
      rw [U8_at _ _ (by omega), hget j hj] at hu
      cases hu
      exact hc j (by omega)
    · rw [hlen] at hk
      rw [hget k hk]
      have hkz : k < zs.length := by omega
      have hmem : zs.getD k 0 ∈ zs := by rw [List.getD_eq_getElem?_getD, List.getElem?_eq_getElem hkz]; exact List.getElem_mem hkz
      exact bounds_u8 (hw _ hmem)

theorem own_empty (w : World) : (w.alloc (.cells #[] 5)).ownsRow w.heap.size 5 1 (.slice (some ⟨w.heap.size, 0, none⟩) 0 0) 0 (U8 []) :=
  ⟨rfl, .inr ⟨w.heap.size, 0, #[], rfl, Nat.le_refl _, heap_alloc_new w _, Nat.le_refl _, by unfold maxLen; omega, rfl, rfl⟩⟩

end Go.Proofs.Ytcbadmkgbaffpaa
