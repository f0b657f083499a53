/- markPieceS, heldPieceS. -/
import Derived.Test.YtogiocinhjbdkaaRowPieceDef
namespace Go.Proofs.Ytogiocinhjbdkaa
open Go.RowKit
set_option linter.unusedSimpArgs false
set_option linter.unusedVariables false

end Go.Proofs.Ytogiocinhjbdkaa
