/- Two bytes made into a string, wherever they lie; headers of datagrams. -/
import Derived.Test.YtncpnoloamebnaaKit
import Derived.Test.YtncpnoloamebnaaPktMath
namespace Go.Proofs.Ytncpnoloamebnaa
open Go.RowKit
/-- Two bytes. -/
def two (a b : Int) : ByteArray := ⟨#[low a, low b]⟩
theorem conv_two_at (t : TypeId) (a b : Int) (ha : 0 ≤ a ∧ a < 256) (hb : 0 ≤ b ∧ b < 256) (g : Nat) (W : World) (h : W.heap[g]? = some (.cells #[.int .u8 a, .int .u8 b] t (0, 0))) :
    (convert 64 9 (.slice (some ⟨g, 0, none⟩) 2 2)).run Try.prog W = .ok (.string (two a b)) W := by
  have h0 := run_convert_bytes_back (P := Try.prog) W 64 9 5 ⟨g, 0, none⟩ 2 [low a, low b]
    Try.underlying64 Try.underlying5 Try.underlying9 (fun j hj => by
      have hadd : (⟨g, 0, none⟩ : Addr).add j = ⟨g, j, none⟩ := by unfold Addr.add; split <;> simp_all
      rw [hadd, cell_of_row _ _ j _ _ _ h]
      have hj' : j < 2 := hj
      have l1 := low_toNat a
      have l2 := low_toNat b
      rcases (show j = 0 ∨ j = 1 by omega) with rfl | rfl
      · show some (Value.int IntKind.u8 a) = some (Value.int IntKind.u8 ((low a).toNat : Int))
        rw [l1, Int.emod_eq_of_lt ha.1 ha.2]
      · show some (Value.int IntKind.u8 b) = some (Value.int IntKind.u8 ((low b).toNat : Int))
        rw [l2, Int.emod_eq_of_lt hb.1 hb.2])
  exact h0
/-- The header of a datagram with zero in place of the checksum. -/
def IpM.blank (e : IpM) : ByteArray :=
  two 69 (e.tos % 256) ++ w16 (20 + e.body.size) ++ w16 e.id ++ w16 16384 ++ two (e.ttl % 256) (e.proto % 256) ++ w16 0 ++ w32 e.src ++ w32 e.dst
theorem IpM.blank_size (e : IpM) : e.blank.size = 20 := by
  unfold IpM.blank
  simp only [ByteArray.size_append]
  rfl
def IpM.header (e : IpM) : ByteArray := put e.blank 10 (w16 (65535 - sumW e.blank))
theorem IpM.header_size (e : IpM) : e.header.size = 20 := by
  unfold IpM.header put
  rw [if_pos (by rw [e.blank_size]; exact ⟨by decide, by show (10 : Int) + 2 ≤ 20; decide⟩)]
  simp only [ByteArray.size_append, ByteArray.size_extract, e.blank_size]
  rfl
def IpM.bytes (e : IpM) : ByteArray := e.header ++ e.body
def IpM.head (e : IpM) : ByteArray := if e.Ok then e.header else ⟨#[]⟩
def IpM.built (e : IpM) : ByteArray := if e.Ok then e.bytes else ⟨#[]⟩
end Go.Proofs.Ytncpnoloamebnaa
