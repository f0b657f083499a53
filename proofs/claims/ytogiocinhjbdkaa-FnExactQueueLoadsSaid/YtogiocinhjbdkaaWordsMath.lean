/- Numbers that are written into a string can be read there; what was there can be put back. -/
import Derived.Test.YtogiocinhjbdkaaPutMath
namespace Go.Proofs.Ytogiocinhjbdkaa

theorem get32_in (s : ByteArray) (p : Nat) (h : p + 4 ≤ s.size) : get32 s p = (byteI s p * 256 + byteI s (p + 1)) * 65536 + (byteI s (p + 2) * 256 + byteI s (p + 3)) := by
  unfold get32
  rw [if_pos (by omega), get16_in s p (by omega), show (p : Int) + 2 = ((p + 2 : Nat) : Int) from by omega, get16_in s (p + 2) (by omega)]
theorem w32_bytes (s : ByteArray) (p : Nat) (v : Int) (h : p + 4 ≤ s.size) :
    byteI (put s p (w32 v)) p = v / 16777216 % 256 ∧ byteI (put s p (w32 v)) (p + 1) = v / 65536 % 256 ∧ byteI (put s p (w32 v)) (p + 2) = v / 256 % 256 ∧ byteI (put s p (w32 v)) (p + 3) = v % 256 := by
  have hz : (w32 v).size = 4 := rfl
  have h0 := byte_put_in s (w32 v) p (by omega) 0 (by omega)
  have h1 := byte_put_in s (w32 v) p (by omega) 1 (by omega)
  have h2 := byte_put_in s (w32 v) p (by omega) 2 (by omega)
  have h3 := byte_put_in s (w32 v) p (by omega) 3 (by omega)
  rw [Nat.add_zero] at h0
  rw [h0, h1, h2, h3]
  exact ⟨low_toNat _, low_toNat _, low_toNat _, low_toNat _⟩
theorem get32_put (s : ByteArray) (p : Nat) (v : Int) (h : p + 4 ≤ s.size) (hv : 0 ≤ v ∧ v ≤ 4294967295) : get32 (put s p (w32 v)) p = v ∧ get16 (put s p (w32 v)) p = v / 65536 := by
  have hz : (w32 v).size = 4 := rfl
  have hs := put_size s (w32 v) p (by omega)
  obtain ⟨h0, h1, h2, h3⟩ := w32_bytes s p v h
  rw [get32_in _ _ (by omega), get16_in _ _ (by omega), h0, h1, h2, h3]
  omega
theorem put_back (s t : ByteArray) (p : Nat) (h : p + t.size ≤ s.size) : put (put s p t) p (s.extract p (p + t.size)) = s := by
  have hz : (s.extract p (p + t.size)).size = t.size := by rw [ByteArray.size_extract]; omega
  have hs := put_size s t p h
  apply WideShapes.bytes_inj
  rw [put_list (put s p t) _ p (by omega), put_list s t p h, hz]
  have hl : s.data.toList.length = s.size := by simp
  have ht : t.data.toList.length = t.size := by simp
  have h1 : (s.data.toList.take p).length = p := by simp; omega
  have e1 : ((s.data.toList.take p ++ t.data.toList ++ s.data.toList.drop (p + t.size)).take p) = s.data.toList.take p := by
    rw [List.append_assoc, List.take_append_of_le_length (by omega), List.take_of_length_le (by omega)]
  have e2 : ((s.data.toList.take p ++ t.data.toList ++ s.data.toList.drop (p + t.size)).drop (p + t.size)) = s.data.toList.drop (p + t.size) := by
    rw [List.drop_append_of_le_length (by rw [List.length_append]; omega), List.drop_of_length_le (by rw [List.length_append]; omega), List.nil_append]
  rw [e1, e2]
  have e3 : (s.extract p (p + t.size)).data.toList = (s.data.toList.drop p).take t.size := by
    rw [ByteArray.data_extract, Array.toList_extract, List.extract_eq_take_drop, Nat.add_sub_cancel_left]
  rw [e3, List.append_assoc, ← List.drop_drop, List.take_append_drop, List.take_append_drop]

end Go.Proofs.Ytogiocinhjbdkaa
