/- markVirtualFunctionS, heldVirtualFunctionS. -/
import Derived.Test.YthjajgpejfoghabRowVirtualFunctionDef
namespace Go.Proofs.Ythjajgpejfoghab
open Go.RowKit
set_option linter.unusedSimpArgs false
set_option linter.unusedVariables false

end Go.Proofs.Ythjajgpejfoghab
