/- Claims: the program's and the document's. -/
import Derived.Test.YtkhpbjafdamhaaaDSame
namespace Go.Proofs.Ytkhpbjafdamhaaa
open Go.RowKit
set_option linter.unusedVariables false
set_option linter.unusedSimpArgs false
set_option maxRecDepth 100000

def flatI (Is : Nat → Array Value) (n : Nat) : List Value := (List.range n).flatMap fun i => (Is i).toList
theorem flatI_succ (Is : Nat → Array Value) (n : Nat) : flatI Is (n + 1) = flatI Is n ++ (Is n).toList := by simp [flatI, List.range_succ]
/-- a list of inputs -/
def InsS (W : World) (ao : Option Addr) (n c : Nat) (Is : Nat → Array Value) : Prop :=
  (ao = none ∧ n = 0 ∧ c = 0) ∨ ∃ x : Addr, ao = some x ∧ ∀ j u, (flatI Is n)[j]? = some u → W.cell? (x.add j) = some u
theorem InsS.below {w W : World} {ao : Option Addr} {n c : Nat} {Is : Nat → Array Value} (h : InsS w ao n c Is) (B : Below w.heap.size w W) : InsS W ao n c Is := by
  rcases h with h | ⟨x, e, h⟩
  · exact .inl h
  · exact .inr ⟨x, e, fun j u hu => (B.cell (block_lt_of_cell (h j u hu))).trans (h j u hu)⟩
theorem Rw.base {W : World} {base base' T sz g n cap : Nat} {xs : List Value} (h : Rw W base T sz g n cap xs) (hb : base' ≤ base) : Rw W base' T sz g n cap xs := by
  refine ⟨h.1, ?_⟩
  rcases h.2 with e | ⟨g', cap', cur, e, h1, r⟩
  · exact .inl e
  · exact .inr ⟨g', cap', cur, e, Nat.le_trans hb h1, r⟩
end Go.Proofs.Ytkhpbjafdamhaaa
