/- The texts by which the laws mark strings. -/
import Derived.Test.YtfbnjemmmgobkaaBase
import Derived.Test.YtfbnjemmmgobkaaFormatMath
import Derived.Test.YtfbnjemmmgobkaaStrsOwn
import Derived.Deep.QuietTactic
import Derived.BigQuiet
namespace Go.Proofs.Ytfbnjemmmgobkaa
open Go.RowKit
set_option linter.unusedVariables false
set_option linter.unusedSimpArgs false
/-- The mark of number k. -/
def mT (k : Nat) : ByteArray := ⟨#[109]⟩ ++ ⟨(decD k).toArray⟩

def mTI (k : Int) : ByteArray := mT k.toNat
end Go.Proofs.Ytfbnjemmmgobkaa
