/- A changed byte changes the frame check: the plain mathematics. -/
import Derived.Test.YtnihigfpaalmgaaCrcMath
import Derived.WideShapes
namespace Go.Proofs.Ytnihigfpaalmgaa

theorem xor_cancel {a b c : Nat} (h : a ^^^ c = b ^^^ c) : a = b := by
  have := congrArg (· ^^^ c) h
  simpa [Nat.xor_assoc] using this
theorem xor_cancel_left {a b c : Nat} (h : c ^^^ a = c ^^^ b) : a = b := by
  rw [Nat.xor_comm c a, Nat.xor_comm c b] at h; exact xor_cancel h
theorem high_apart (a b : Nat) (ha : a < 2 ^ 31) (hb : b < 2 ^ 31) (h : a ^^^ poly = b) : False := by
  have h1 := congrArg (Nat.testBit · 31) h
  simp only [Nat.testBit_xor] at h1
  rw [Nat.testBit_lt_two_pow ha, Nat.testBit_lt_two_pow hb, show poly.testBit 31 = true from by decide] at h1
  exact absurd h1 (by decide)
theorem crcStep_inj (a b : Nat) (ha : a < 2 ^ 32) (hb : b < 2 ^ 32) (h : crcStep a = crcStep b) : a = b := by
  unfold crcStep at h
  split at h <;> split at h
  · have := xor_cancel h; omega
  · exact (high_apart _ _ (by omega) (by omega) h).elim
  · exact (high_apart _ _ (by omega) (by omega) h.symm).elim
  · omega
theorem crcN_inj (k : Nat) (a b : Nat) (ha : a < 2 ^ 32) (hb : b < 2 ^ 32) (h : crcN a k = crcN b k) : a = b := by
  induction k with
  | zero => exact h
  | succ k ih => exact ih (crcStep_inj _ _ (crcN_lt a ha k) (crcN_lt b hb k) h)
theorem byte32 (c : Nat) (x : UInt8) (h : c < 2 ^ 32) : c ^^^ x.toNat < 2 ^ 32 := Nat.xor_lt_two_pow h (by have := UInt8.toNat_lt x; omega)
theorem crcByte_inj (c d : Nat) (x : UInt8) (hc : c < 2 ^ 32) (hd : d < 2 ^ 32) (h : crcByte c x = crcByte d x) : c = d :=
  xor_cancel (crcN_inj 8 _ _ (byte32 c x hc) (byte32 d x hd) h)
theorem crcByte_apart (c : Nat) (x y : UInt8) (hc : c < 2 ^ 32) (h : crcByte c x = crcByte c y) : x = y :=
  UInt8.toNat_inj.mp (xor_cancel_left (crcN_inj 8 _ _ (byte32 c x hc) (byte32 c y hc) h))
theorem crcL_inj (l : List UInt8) : ∀ c d, c < 2 ^ 32 → d < 2 ^ 32 → crcL c l = crcL d l → c = d := by
  induction l with
  | nil => intro c d _ _ h; exact h
  | cons b l ih => intro c d hc hd h; exact crcByte_inj c d b hc hd (ih _ _ (crcByte_lt c b hc) (crcByte_lt d b hd) h)
theorem crcL_apart (p q : List UInt8) (x y : UInt8) (c : Nat) (hc : c < 2 ^ 32) (h : crcL c (p ++ x :: q) = crcL c (p ++ y :: q)) : x = y := by
  simp only [crcL, List.foldl_append, List.foldl_cons] at h
  have hp := crcL_lt p c hc
  exact crcByte_apart _ x y hp (crcL_inj q _ _ (crcByte_lt _ x hp) (crcByte_lt _ y hp) h)

theorem fcs_inj (s t : ByteArray) (h : fcs s = fcs t) : crc s = crc t := by
  have hs := crc_lt s; have ht := crc_lt t
  have h' := congrArg (fun z : ByteArray => z.data.toList) h
  simp only [fcs, List.cons.injEq, and_true] at h'
  obtain ⟨h0, h1, h2, h3⟩ := h'
  have e0 := congrArg (fun z : UInt8 => (z.toNat : Int)) h0
  have e1 := congrArg (fun z : UInt8 => (z.toNat : Int)) h1
  have e2 := congrArg (fun z : UInt8 => (z.toNat : Int)) h2
  have e3 := congrArg (fun z : UInt8 => (z.toNat : Int)) h3
  simp only [low_toNat] at e0 e1 e2 e3
  omega
theorem crc_inj (s t : ByteArray) (h : crc s = crc t) : crcL 4294967295 s.data.toList = crcL 4294967295 t.data.toList := by
  have hs := crcL_lt s.data.toList 4294967295 (by omega)
  have ht := crcL_lt t.data.toList 4294967295 (by omega)
  unfold crc at h
  omega

/-- A string with one byte changed. -/
def bendB (s : ByteArray) (k : Nat) (y : UInt8) : ByteArray := s.extract 0 k ++ ⟨#[y]⟩ ++ s.extract (k + 1) s.size
theorem bendB_list (s : ByteArray) (k : Nat) (y : UInt8) (h : k < s.size) : (bendB s k y).data.toList = s.data.toList.take k ++ y :: s.data.toList.drop (k + 1) := by
  unfold bendB
  have hl : s.data.toList.length = s.size := by simp
  simp only [ByteArray.data_append, Array.toList_append, ByteArray.data_extract, Array.toList_extract, List.extract_eq_take_drop, List.drop_zero, Nat.sub_zero, List.append_assoc, List.singleton_append]
  rw [List.take_of_length_le (l := List.drop (k + 1) s.data.toList) (by rw [List.length_drop]; omega)]
theorem bendB_size (s : ByteArray) (k : Nat) (y : UInt8) (h : k < s.size) : (bendB s k y).size = s.size := by
  have hl := congrArg List.length (bendB_list s k y h)
  have h2 : s.data.toList.length = s.size := by simp
  have h3 : (bendB s k y).data.toList.length = (bendB s k y).size := by simp
  rw [h3, List.length_append, List.length_take, List.length_cons, List.length_drop] at hl
  omega
theorem body_with (s : ByteArray) : bodyF (withF s) = s := by
  apply WideShapes.bytes_inj
  have hz := withF_size s
  unfold bodyF
  have hl : s.data.toList.length = s.size := by simp
  rw [hz, ByteArray.data_extract, Array.toList_extract, List.extract_eq_take_drop, Nat.add_sub_cancel, List.drop_zero, Nat.sub_zero]
  unfold withF
  rw [ByteArray.data_append, Array.toList_append, List.take_append_of_le_length (by omega), List.take_of_length_le (by omega)]
theorem good_with (s : ByteArray) : goodF (withF s) = true := by
  unfold goodF
  rw [body_with, withF_size]
  simp
theorem bend_seen (s : ByteArray) (k : Nat) (y : UInt8) (h : k < (withF s).size) (hy : y ≠ (withF s)[k]) : goodF (bendB (withF s) k y) = false := by
  cases hg : goodF (bendB (withF s) k y)
  · rfl
  · exfalso
    unfold goodF at hg
    simp only [Bool.and_eq_true, decide_eq_true_eq] at hg
    obtain ⟨_, he⟩ := hg
    have hz := bendB_size (withF s) k y h
    have hw := withF_size s
    have hl : s.data.toList.length = s.size := by simp
    have hbl := bendB_list (withF s) k y h
    have hwl : (withF s).data.toList = s.data.toList ++ (fcs s).data.toList := by unfold withF; simp
    have hsplit : (withF s).data.toList = (withF s).data.toList.take k ++ (withF s)[k] :: (withF s).data.toList.drop (k + 1) := by
      have hk : k < (withF s).data.toList.length := by simpa using h
      have := List.take_append_drop k (withF s).data.toList
      rw [List.drop_eq_getElem_cons hk] at this
      exact this.symm
    have hbody : (bodyF (bendB (withF s) k y)).data.toList = (bendB (withF s) k y).data.toList.take s.size := by
      unfold bodyF
      rw [hz, hw, ByteArray.data_extract, Array.toList_extract, List.extract_eq_take_drop, Nat.add_sub_cancel, List.drop_zero, Nat.sub_zero]
    by_cases hk : k < s.size
    · -- the body is another: its check is
      have e3 : (bendB (withF s) k y).data.toList = (s.data.toList.take k ++ y :: s.data.toList.drop (k + 1)) ++ (fcs s).data.toList := by
        rw [hbl, hwl, List.take_append_of_le_length (by omega), List.drop_append_of_le_length (by omega)]
        simp
      have hlen : (s.data.toList.take k ++ y :: s.data.toList.drop (k + 1)).length = s.size := by
        rw [List.length_append, List.length_take, List.length_cons, List.length_drop]; omega
      have hb2 : (bodyF (bendB (withF s) k y)).data.toList = s.data.toList.take k ++ y :: s.data.toList.drop (k + 1) := by
        rw [hbody, e3, List.take_append_of_le_length (by omega)]
        exact List.take_of_length_le (by omega)
      have hs2 : s.data.toList = s.data.toList.take k ++ s[k] :: s.data.toList.drop (k + 1) := by
        have hk' : k < s.data.toList.length := by simpa using hk
        have := List.take_append_drop k s.data.toList
        rw [List.drop_eq_getElem_cons hk'] at this
        exact this.symm
      have hsk : (withF s)[k] = s[k] := by unfold withF; exact ByteArray.getElem_append_left hk
      have he1 := congrArg (fun z : ByteArray => z.data.toList) he
      have he2 : (withF (bodyF (bendB (withF s) k y))).data.toList = (bodyF (bendB (withF s) k y)).data.toList ++ (fcs (bodyF (bendB (withF s) k y))).data.toList := by unfold withF; simp
      have hfe : (fcs (bodyF (bendB (withF s) k y))).data.toList = (fcs s).data.toList := by
        have he3 : (withF (bodyF (bendB (withF s) k y))).data.toList = (bendB (withF s) k y).data.toList := he1
        rw [he2, e3, hb2] at he3
        exact List.append_cancel_left he3
      have hce := crc_inj _ _ (fcs_inj _ _ (WideShapes.bytes_inj hfe))
      rw [hb2] at hce
      have := crcL_apart (s.data.toList.take k) (s.data.toList.drop (k + 1)) y s[k] 4294967295 (by omega) (hce.trans (congrArg (crcL 4294967295) hs2))
      exact hy (this.trans hsk.symm)
    · -- the body is the same, the check is another
      have hb2 : bodyF (bendB (withF s) k y) = s := by
        apply WideShapes.bytes_inj
        rw [hbody, hbl, List.take_append_of_le_length (by rw [List.length_take]; simp; omega), List.take_take, hwl, List.take_append_of_le_length (by omega)]
        exact List.take_of_length_le (by omega)
      rw [hb2] at he
      have he1 := congrArg (fun z : ByteArray => z.data.toList) he
      have he3 : (withF s).data.toList = (bendB (withF s) k y).data.toList := he1
      rw [hbl] at he3
      have h4 := hsplit.symm.trans he3
      have h5 := List.append_cancel_left h4
      exact hy (List.cons.inj h5).1.symm

theorem crc_known : crc ⟨#[49, 50, 51, 52, 53, 54, 55, 56, 57]⟩ = 3421780262 := by kernel_rfl

end Go.Proofs.Ytnihigfpaalmgaa
