/- Putting bytes into a string: its bytes, its length, and what can be read there. -/
import Derived.Test.YtogiocinhjbdkaaUpdMath
namespace Go.Proofs.Ytogiocinhjbdkaa

theorem put_list (s t : ByteArray) (p : Nat) (h : p + t.size ≤ s.size) : (put s p t).data.toList = s.data.toList.take p ++ t.data.toList ++ s.data.toList.drop (p + t.size) := by
  have e : put s p t = s.extract 0 p ++ t ++ s.extract (p + t.size) s.size := by
    unfold put; rw [if_pos (by omega)]; rfl
  rw [e, append_list, append_list]
  simp only [ByteArray.data_extract, Array.toList_extract, List.extract_eq_take_drop, Nat.sub_zero, List.drop_zero]
  congr 1
  rw [List.take_of_length_le]
  simp
theorem put_size (s t : ByteArray) (p : Nat) (h : p + t.size ≤ s.size) : (put s p t).size = s.size := by
  have := congrArg List.length (put_list s t p h)
  simp at this
  have h1 : (put s p t).data.size = (put s p t).size := rfl
  have h2 : t.data.size = t.size := rfl
  omega
theorem byte_put_in (s t : ByteArray) (p : Nat) (h : p + t.size ≤ s.size) (j : Nat) (hj : j < t.size) : byteI (put s p t) (p + j) = byteI t j := by
  have h2 : t.data.toList.length = t.size := by simp
  have h1 : (s.data.toList.take p).length = p := by simp; omega
  unfold byteI
  rw [put_list s t p h, List.append_assoc, List.getD_eq_getElem?_getD, List.getElem?_append_right (by omega), h1, List.getElem?_append_left (by omega), ← List.getD_eq_getElem?_getD, Nat.add_sub_cancel_left]
theorem byte_put_out (s t : ByteArray) (p : Nat) (h : p + t.size ≤ s.size) (j : Nat) (hj : j < p ∨ p + t.size ≤ j) : byteI (put s p t) j = byteI s j := by
  have h2 : t.data.toList.length = t.size := by simp
  have h1 : (s.data.toList.take p).length = p := by simp; omega
  unfold byteI
  rw [put_list s t p h, List.getD_eq_getElem?_getD, List.getD_eq_getElem?_getD]
  rcases hj with hj | hj
  · rw [List.append_assoc, List.getElem?_append_left (by omega), List.getElem?_take, if_pos hj]
  · rw [List.getElem?_append_right (by rw [List.length_append]; omega), List.getElem?_drop, List.length_append, h1, h2, show p + t.size + (j - (p + t.size)) = j from by omega]
theorem get16_put (s : ByteArray) (p : Nat) (v : Int) (h : p + 2 ≤ s.size) (hv : 0 ≤ v ∧ v ≤ 65535) : get16 (put s p (w16 v)) p = v := by
  have hz : (w16 v).size = 2 := rfl
  rw [get16_in _ _ (by rw [put_size s _ p (by omega)]; exact h)]
  have h0 := byte_put_in s (w16 v) p (by omega) 0 (by omega)
  have h1 := byte_put_in s (w16 v) p (by omega) 1 (by omega)
  rw [Nat.add_zero] at h0
  rw [h0, h1]
  show ((low (v / 256)).toNat : Int) * 256 + ((low v).toNat : Int) = v
  rw [low_toNat, low_toNat]
  omega
theorem tot_put (s : ByteArray) (k a : Nat) (h : k + 2 ≤ s.size) (he : k % 2 = 0) (ha : a ≤ 65535) :
    ∃ b : Nat, get16 s k = b ∧ b ≤ 65535 ∧ b ≤ tot s.data.toList ∧ tot (put s k (w16 a)).data.toList = tot s.data.toList - b + a := by
  have hz : (w16 a).size = 2 := rfl
  have hb := get16_bd s k h
  refine ⟨(get16 s k).toNat, by omega, by omega, ?_⟩
  have hl : s.data.toList = s.data.toList.take k ++ ([s[k]'(by omega), s[k + 1]'(by omega)] ++ s.data.toList.drop (k + 2)) := by
    conv => lhs; rw [← List.take_append_drop k s.data.toList]
    congr 1
    rw [List.drop_eq_getElem_cons (by simp; omega), List.drop_eq_getElem_cons (by simp; omega)]
    rfl
  have hg : get16 s k = ((s[k]'(by omega)).toNat : Int) * 256 + ((s[k + 1]'(by omega)).toNat : Int) := by rw [get16_in s k h, byteI_at s k (by omega), byteI_at s (k + 1) (by omega)]
  have ht : tot s.data.toList = tot (s.data.toList.take k) + ((get16 s k).toNat + tot (s.data.toList.drop (k + 2))) := by
    conv => lhs; rw [hl]
    rw [tot_app _ _ (by simp; omega), hg]
    simp only [List.cons_append, List.nil_append, tot]
    omega
  have hp : tot (put s k (w16 a)).data.toList = tot (s.data.toList.take k) + (a + tot (s.data.toList.drop (k + 2))) := by
    rw [put_list s (w16 a) k (by omega), List.append_assoc, tot_app _ _ (by simp; omega), hz]
    have hw : (w16 (a : Int)).data.toList = [low ((a : Int) / 256), low (a : Int)] := rfl
    have l1 := low_toNat ((a : Int) / 256)
    have l2 := low_toNat (a : Int)
    rw [hw]
    simp only [List.cons_append, List.nil_append, tot]
    omega
  rw [ht, hp]
  omega
theorem upd_law (s : ByteArray) (k a : Nat) (h : k + 2 ≤ s.size) (he : k % 2 = 0) (ha : a ≤ 65535) :
    (sumW (put s k (w16 a)) = 0 → a = 0) ∧ (sumW (put s k (w16 a)) ≠ 0 → updS (65535 - sumW s) (get16 s k) a = 65535 - sumW (put s k (w16 a))) := by
  obtain ⟨b, hb, hb1, hb2, ht⟩ := tot_put s k a h he ha
  have hs := sumW_bd s
  rw [sumW_rep (put s k (w16 a)), ht]
  refine ⟨fun h0 => ?_, fun h0 => ?_⟩
  · have := (rep_zero (tot s.data.toList - b + a)).1 (by omega)
    omega
  · have h1 : tot s.data.toList - b + a ≠ 0 := fun e => h0 (by rw [e]; rfl)
    unfold updS
    rw [if_pos (by omega), hb, sumW_rep s]
    exact upd_rep _ b a hb1 ha hb2 h1

end Go.Proofs.Ytogiocinhjbdkaa
