/- What a commitment sums up to: the statement's walk. -/
import Derived.Test.YtkhpbjafdamhaaaDOuts
namespace Go.Proofs.Ytkhpbjafdamhaaa
open Go.RowKit
set_option linter.unusedVariables false
set_option linter.unusedSimpArgs false
set_option maxRecDepth 100000

end Go.Proofs.Ytkhpbjafdamhaaa
