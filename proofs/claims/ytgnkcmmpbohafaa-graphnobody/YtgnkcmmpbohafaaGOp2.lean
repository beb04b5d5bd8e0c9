/- More operations: cuts, rows that are made, rows that grow, maps, what is nil. -/
import Derived.Test.YtgnkcmmpbohafaaGDev
import Derived.Test.YtgnkcmmpbohafaaGMath
namespace Go.Proofs.Ytgnkcmmpbohafaa
open Go.RowKit
set_option linter.unusedVariables false
set_option linter.unusedSimpArgs false
set_option maxRecDepth 100000
section
variable {o : Oper} {a : Act} {W : World}
theorem ex_cutl {x y : Operand} {b p n c k : Nat} {l : Int} (ho : o.op = .slice 33 x (some y) none none) (hx : a.eval x = .slice (some ⟨b, p, none⟩) n c) (hy : a.eval y = .int .i64 l) (hl : l = (k : Int)) (hk : k ≤ n) (hn : n ≤ c) : (execOp a.eval o).run Try.prog W = .ok (.value (.slice (some ⟨b, if c = k then p else p + k * 13, none⟩) (n - k) (c - k))) W := by
  subst hl
  have h1 : (k : Int) ≤ (n : Int) := by omega
  have h2 : (n : Int) ≤ (c : Int) := by omega
  unfold execOp
  simp only [ho, Option.map_some, Option.map_none, hx, hy]
  by_cases h : c = k
  · subst h
    go_simp
  · go_simp
theorem ex_cuth {x y : Operand} {b p n c k : Nat} {l : Int} (ho : o.op = .slice 33 x none (some y) none) (hx : a.eval x = .slice (some ⟨b, p, none⟩) n c) (hy : a.eval y = .int .i64 l) (hl : l = (k : Int)) (hk : k ≤ c) : (execOp a.eval o).run Try.prog W = .ok (.value (.slice (some ⟨b, p, none⟩) k c)) W := by
  subst hl
  have h1 : (k : Int) ≤ (c : Int) := by omega
  unfold execOp
  simp only [ho, Option.map_some, Option.map_none, hx, hy]
  by_cases h : c = 0
  · subst h
    obtain rfl : k = 0 := by omega
    go_simp
  · go_simp
theorem ex_cuthS {x y : Operand} {b p n c k : Nat} {l : Int} (ho : o.op = .slice 118 x none (some y) none) (hx : a.eval x = .slice (some ⟨b, p, none⟩) n c) (hy : a.eval y = .int .i64 l) (hl : l = (k : Int)) (hk : k ≤ c) : (execOp a.eval o).run Try.prog W = .ok (.value (.slice (some ⟨b, p, none⟩) k c)) W := by
  subst hl
  have h1 : (k : Int) ≤ (c : Int) := by omega
  unfold execOp
  simp only [ho, Option.map_some, Option.map_none, hx, hy]
  by_cases h : c = 0
  · subst h
    obtain rfl : k = 0 := by omega
    go_simp
  · go_simp
end
end Go.Proofs.Ytgnkcmmpbohafaa
