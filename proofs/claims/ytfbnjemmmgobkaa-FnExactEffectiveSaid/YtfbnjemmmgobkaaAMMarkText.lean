/- The texts by which the laws mark strings, by the abstract machine. -/
import Derived.Test.YtfbnjemmmgobkaaAM24
import Derived.Test.YtfbnjemmmgobkaaMarkText
namespace Go.Proofs.Ytfbnjemmmgobkaa
open Go.RowKit AM
set_option linter.unusedVariables false
end Go.Proofs.Ytfbnjemmmgobkaa
