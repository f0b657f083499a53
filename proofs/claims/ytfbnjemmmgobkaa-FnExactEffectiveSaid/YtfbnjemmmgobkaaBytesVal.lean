/- The values of the functions on bytes and sums, at every argument. -/
import Derived.Test.YtfbnjemmmgobkaaBase
import Derived.Test.YtfbnjemmmgobkaaBytesMath
namespace Go.Proofs.Ytfbnjemmmgobkaa
open Go.RowKit

def word16V (v : Int) : ByteArray := if 0 ≤ v ∧ v ≤ 65535 then w16 v else ⟨#[]⟩
def word32V (v : Int) : ByteArray := if 0 ≤ v ∧ v ≤ 4294967295 then w32 v else ⟨#[]⟩
theorem below_of_drewN (w : World) (m : Nat) : Below w.heap.size w (w.drewN m) := below_drewN (Below.refl _ _) m

end Go.Proofs.Ytfbnjemmmgobkaa
