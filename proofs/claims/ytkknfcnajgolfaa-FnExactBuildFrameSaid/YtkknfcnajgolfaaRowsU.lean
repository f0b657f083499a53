/- Rows of bytes of the call's own. -/
import Derived.Test.YtkknfcnajgolfaaBase

namespace Go.Proofs.Ytkknfcnajgolfaa
open Go.RowKit

theorem u8s_set (l : List UInt8) (k : Nat) (c : UInt8) : (u8s l).set k (.int .u8 c.toNat) = u8s (l.set k c) := by simp [u8s, List.map_set]
theorem u8s_zero (n : Nat) : (madeCells #[Value.int .u8 0] (n * 1)).toList = u8s (List.replicate n 0) := by
  rw [Nat.mul_one, toList_madeCells_one]; simp [u8s]


end Go.Proofs.Ytkknfcnajgolfaa
