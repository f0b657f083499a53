/- Contracts of the model's changes of byte strings, and of its sums. -/
import Derived.Test.YtfbnjemmmgobkaaWordsSpec
import Derived.Test.YtfbnjemmmgobkaaBytesMath
import Derived.Deep.QuietTactic
import Derived.BigQuiet
namespace Go.Proofs.Ytfbnjemmmgobkaa
open Go.RowKit

end Go.Proofs.Ytfbnjemmmgobkaa
