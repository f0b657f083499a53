/- The plain mathematics of numbers in byte strings and of ones' complement sums. -/
import Derived.RowKit
import Derived.WideShapes
namespace Go.Proofs.Ytfbnjemmmgobkaa

/-- A byte of a string as a number; 0 behind its end. -/
def byteI (s : ByteArray) (j : Nat) : Int := ((s.data.toList.getD j 0).toNat : Int)
theorem byteI_at (s : ByteArray) (j : Nat) (h : j < s.size) : byteI s j = (s[j].toNat : Int) := by
  unfold byteI
  rw [List.getD_eq_getElem?_getD, List.getElem?_eq_getElem (by simpa using h)]
  rfl
theorem byteI_bd (s : ByteArray) (j : Nat) : 0 ≤ byteI s j ∧ byteI s j ≤ 255 := by
  unfold byteI
  have := UInt8.toNat_lt (s.data.toList.getD j 0)
  omega
/-- The lowest byte of a number. -/
def low (v : Int) : UInt8 := UInt8.ofNat (v % 256).toNat
theorem low_toNat (v : Int) : ((low v).toNat : Int) = v % 256 := by
  unfold low
  rw [UInt8.toNat_ofNat']
  omega
def w16 (v : Int) : ByteArray := ⟨#[low (v / 256), low v]⟩
def w32 (v : Int) : ByteArray := ⟨#[low (v / 16777216), low (v / 65536), low (v / 256), low v]⟩
def get16 (s : ByteArray) (p : Int) : Int := if 0 ≤ p ∧ p + 2 ≤ s.size then byteI s p.toNat * 256 + byteI s (p.toNat + 1) else -1
def get32 (s : ByteArray) (p : Int) : Int := if 0 ≤ p ∧ p + 4 ≤ s.size then get16 s p * 65536 + get16 s (p + 2) else -1
def put (s : ByteArray) (p : Int) (t : ByteArray) : ByteArray := if 0 ≤ p ∧ p + t.size ≤ s.size then s.extract 0 p.toNat ++ t ++ s.extract (p.toNat + t.size) s.size else s
theorem get16_in (s : ByteArray) (p : Nat) (h : p + 2 ≤ s.size) : get16 s p = byteI s p * 256 + byteI s (p + 1) := by
  unfold get16
  rw [if_pos (by omega)]
  rfl
theorem get16_out (s : ByteArray) (p : Int) (h : ¬ (0 ≤ p ∧ p + 2 ≤ s.size)) : get16 s p = -1 := by unfold get16; rw [if_neg h]
theorem get16_bd (s : ByteArray) (p : Nat) (h : p + 2 ≤ s.size) : 0 ≤ get16 s p ∧ get16 s p ≤ 65535 := by
  rw [get16_in s p h]
  have := byteI_bd s p
  have := byteI_bd s (p + 1)
  omega
/-- The ones' complement sum. -/
def addS (a b : Int) : Int := if 0 ≤ a ∧ a ≤ 65535 ∧ 0 ≤ b ∧ b ≤ 65535 then (if 65535 < a + b then a + b - 65535 else a + b) else -1
theorem addS_in (a b : Int) (h : 0 ≤ a ∧ a ≤ 65535 ∧ 0 ≤ b ∧ b ≤ 65535) : 0 ≤ addS a b ∧ addS a b ≤ 65535 := by
  unfold addS; rw [if_pos h]; split <;> omega
/-- The sum of the 16-bit numbers of a list. -/
def sumL (acc : Int) : List UInt8 → Int
  | a :: b :: r => sumL (addS acc ((a.toNat : Int) * 256 + b.toNat)) r
  | [a] => addS acc ((a.toNat : Int) * 256)
  | [] => acc
theorem sumL_app : ∀ (l r : List UInt8) (acc : Int), l.length % 2 = 0 → sumL acc (l ++ r) = sumL (sumL acc l) r
  | [], r, acc, _ => rfl
  | [a], r, acc, h => by simp at h
  | a :: b :: l, r, acc, h => by
    simp only [List.cons_append, sumL]
    exact sumL_app l r _ (by simp at h; omega)
theorem sumL_bd : ∀ (l : List UInt8) (acc : Int), 0 ≤ acc ∧ acc ≤ 65535 → 0 ≤ sumL acc l ∧ sumL acc l ≤ 65535
  | [], acc, h => h
  | [a], acc, h => by
    have ha := UInt8.toNat_lt a
    exact addS_in _ _ ⟨h.1, h.2, by omega, by omega⟩
  | a :: b :: l, acc, h => by
    have ha := UInt8.toNat_lt a
    have hb := UInt8.toNat_lt b
    exact sumL_bd l _ (addS_in _ _ ⟨h.1, h.2, by omega, by omega⟩)
theorem sum_two (s : ByteArray) (m : Nat) (h : m + 1 < s.size) (he : m % 2 = 0) : sumL 0 (s.data.toList.take (m + 2)) = addS (sumL 0 (s.data.toList.take m)) (byteI s m * 256 + byteI s (m + 1)) := by
  rw [byteI_at s m (by omega), byteI_at s (m + 1) h, List.take_succ_eq_append_getElem (by simpa using h), List.take_succ_eq_append_getElem (by simp; omega), List.append_assoc,
    sumL_app _ _ _ (by simp; omega)]
  rfl
theorem sum_one (s : ByteArray) (m : Nat) (h : m + 1 = s.size) (he : m % 2 = 0) : sumL 0 s.data.toList = addS (sumL 0 (s.data.toList.take m)) (byteI s m * 256) := by
  have e : s.data.toList = s.data.toList.take m ++ [s[m]] := by
    have := List.take_succ_eq_append_getElem (l := s.data.toList) (i := m) (by simp; omega)
    rw [List.take_of_length_le (by simp; omega)] at this
    exact this
  rw [byteI_at s m (by omega)]
  conv => lhs; rw [e]
  rw [sumL_app _ _ _ (by simp; omega)]
  rfl
def sumW (s : ByteArray) : Int := sumL 0 s.data.toList
theorem sumW_bd (s : ByteArray) : 0 ≤ sumW s ∧ sumW s ≤ 65535 := sumL_bd _ _ (by omega)
def updS (a b c : Int) : Int := if 0 ≤ a ∧ a ≤ 65535 ∧ 0 ≤ b ∧ b ≤ 65535 ∧ 0 ≤ c ∧ c ≤ 65535 then 65535 - addS (addS (65535 - a) (65535 - b)) c else -1

end Go.Proofs.Ytfbnjemmmgobkaa
