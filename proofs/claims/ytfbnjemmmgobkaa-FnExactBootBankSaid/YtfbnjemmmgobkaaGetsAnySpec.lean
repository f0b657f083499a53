/- The model's words read, of every argument. -/
import Derived.Test.YtfbnjemmmgobkaaBytesVal
import Derived.Test.YtfbnjemmmgobkaaGet32Spec
namespace Go.Proofs.Ytfbnjemmmgobkaa
open Go.RowKit

theorem spec_get16_any (s : ByteArray) (p : Int) (w : World) (hs : s.size ≤ maxLen) (hp : -9223372036854775808 ≤ p ∧ p ≤ 9223372036854775807) :
    Calls Try.prog 176 #[.string s, .int .i64 p] w fun e w' => e = .returned (.int .i64 (get16 s p)) ∧ Below w.heap.size w w' :=
  (spec_get16 s p w hs hp).mono fun _ _ ⟨h1, m, h2⟩ => ⟨h1, h2 ▸ below_of_drewN w m⟩
theorem spec_get32_any (s : ByteArray) (p : Int) (w : World) (hs : s.size ≤ maxLen) (hp : -9223372036854775808 ≤ p ∧ p ≤ 9223372036854775807) :
    Calls Try.prog 149 #[.string s, .int .i64 p] w fun e w' => e = .returned (.int .i64 (get32 s p)) ∧ Below w.heap.size w w' :=
  (spec_get32 s p w hs hp).mono fun _ _ ⟨h1, m, h2⟩ => ⟨h1, h2 ▸ below_of_drewN w m⟩

end Go.Proofs.Ytfbnjemmmgobkaa
