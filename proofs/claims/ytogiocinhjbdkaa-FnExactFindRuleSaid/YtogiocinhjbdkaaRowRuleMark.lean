/- markRuleS, heldRuleS. -/
import Derived.Test.YtogiocinhjbdkaaRowRuleDef
namespace Go.Proofs.Ytogiocinhjbdkaa
open Go.RowKit
set_option linter.unusedSimpArgs false
set_option linter.unusedVariables false

end Go.Proofs.Ytogiocinhjbdkaa
