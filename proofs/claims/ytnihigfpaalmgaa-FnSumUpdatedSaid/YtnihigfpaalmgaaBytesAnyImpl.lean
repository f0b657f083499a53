/- One contract for each function of the program's bytes and frame check: its value at every argument, and what was there stays. -/
import Derived.Test.YtnihigfpaalmgaaBytesImpl
import Derived.Test.YtnihigfpaalmgaaCrcImpl
namespace Go.Proofs.Ytnihigfpaalmgaa
open Go.RowKit

theorem impl_crc_any (s : ByteArray) (w : World) (hs : s.size ≤ 4194304) :
    Calls Try.prog 35 #[.string s] w fun e w' => e = .returned (.int .i64 (crc s : Nat)) ∧ Below w.heap.size w w' :=
  (impl_crc s w hs).mono fun _ _ hh => ⟨hh.1, hh.2 ▸ Below.refl _ _⟩

end Go.Proofs.Ytnihigfpaalmgaa
