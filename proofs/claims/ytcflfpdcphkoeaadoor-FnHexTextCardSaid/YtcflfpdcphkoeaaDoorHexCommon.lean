/- The digits of a byte as values. -/
import Derived.Test.YtcflfpdcphkoeaaDoorBase
import Derived.Test.YtcflfpdcphkoeaaDoorHexMath
namespace Go.Proofs.YtcflfpdcphkoeaaDoor
open Go.RowKit

theorem u8s_hexB (b : UInt8) : u8s (hexB b) = [.int .u8 (fig ((b.toNat : Int) / 16)), .int .u8 (fig ((b.toNat : Int) % 16))] := by
  have hb : b.toNat < 256 := UInt8.toNat_lt _
  simp only [u8s, hexB, List.map_cons, List.map_nil, figB_toNat _ (show b.toNat / 16 < 16 by omega), figB_toNat _ (show b.toNat % 16 < 16 by omega), Int.natCast_ediv, Int.natCast_emod]
  rfl

end Go.Proofs.YtcflfpdcphkoeaaDoor
