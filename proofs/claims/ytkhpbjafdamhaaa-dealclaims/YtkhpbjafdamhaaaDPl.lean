/- Each Htlc has an output of its own: the statement's walk. -/
import Derived.Test.YtkhpbjafdamhaaaDLives
namespace Go.Proofs.Ytkhpbjafdamhaaa
open Go.RowKit
set_option linter.unusedVariables false
set_option linter.unusedSimpArgs false
set_option maxRecDepth 100000

end Go.Proofs.Ytkhpbjafdamhaaa
