/- Claims, and places of Htlcs: the statement's walk. -/
import Derived.Test.YtkhpbjafdamhaaaDClaim
namespace Go.Proofs.Ytkhpbjafdamhaaa
open Go.RowKit
set_option linter.unusedVariables false
set_option linter.unusedSimpArgs false
set_option maxRecDepth 100000

theorem neqB (b : Bool) (W : World) : (binOp .neq 4 (.bool b) (.bool b)).run Try.prog W = .ok (.bool false) W := by cases b <;> go_simp
theorem eg4 (bop : BinOp) (x y : Operand) (u v : Bool) (W : World) : (eqGuard bop 4 x y (.bool u) (.bool v)).run Try.prog W = .ok () W := by cases bop <;> rfl
end Go.Proofs.Ytkhpbjafdamhaaa
