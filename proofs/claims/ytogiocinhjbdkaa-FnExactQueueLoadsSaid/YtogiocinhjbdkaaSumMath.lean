/- A checksum put behind its data makes the sum 65535. -/
import Derived.Test.YtogiocinhjbdkaaBytesMath
namespace Go.Proofs.Ytogiocinhjbdkaa

theorem w16_size (v : Int) : (w16 v).size = 2 := rfl
theorem append_list (a b : ByteArray) : (a ++ b).data.toList = a.data.toList ++ b.data.toList := by simp
theorem sum_insert (s : ByteArray) (he : s.size % 2 = 0) : sumW (s ++ w16 (65535 - sumW s)) = 65535 := by
  have hb := sumW_bd s
  unfold sumW at *
  rw [append_list, sumL_app _ _ _ (by simpa using he)]
  generalize sumL 0 s.data.toList = x at hb
  show addS x (((low ((65535 - x) / 256)).toNat : Int) * 256 + ((low (65535 - x)).toNat : Int)) = 65535
  rw [low_toNat, low_toNat, show (65535 - x) / 256 % 256 * 256 + (65535 - x) % 256 = 65535 - x from by omega]
  unfold addS
  rw [if_pos (by omega), if_neg (by omega)]
  omega
theorem byteI_right (a b : ByteArray) (j : Nat) : byteI (a ++ b) (a.size + j) = byteI b j := by
  unfold byteI
  rw [append_list, List.getD_eq_getElem?_getD, List.getElem?_append_right (by simp), ← List.getD_eq_getElem?_getD]
  simp
theorem get_insert (s : ByteArray) (v : Int) (h : 0 ≤ v ∧ v ≤ 65535) : get16 (s ++ w16 v) s.size = v := by
  rw [get16_in _ _ (by rw [ByteArray.size_append, w16_size]; exact Nat.le_refl _)]
  have h0 := byteI_right s (w16 v) 0
  have h1 := byteI_right s (w16 v) 1
  rw [Nat.add_zero] at h0
  rw [h0, h1]
  show ((low (v / 256)).toNat : Int) * 256 + ((low v).toNat : Int) = v
  rw [low_toNat, low_toNat]
  omega

end Go.Proofs.Ytogiocinhjbdkaa
