/- The plain mathematics of reading hexadecimal text: the value of a digit, of pairs of digits, which texts are good. -/
import Derived.Lib.Bytealg
import Derived.RowKit
namespace Go.Proofs.YtcflfpdcphkoeaaDoor

/-- The value of a digit; -1 for another byte. -/
def valB (b : UInt8) : Int := if 48 ≤ (b.toNat : Int) ∧ (b.toNat : Int) ≤ 57 then (b.toNat : Int) - 48 else if 97 ≤ (b.toNat : Int) ∧ (b.toNat : Int) ≤ 102 then (b.toNat : Int) - 87 else -1
theorem valB_bd (b : UInt8) : -1 ≤ valB b ∧ valB b ≤ 15 := by unfold valB; split <;> (try split) <;> omega

def decB (a b : UInt8) : UInt8 := UInt8.ofNat (16 * valB a + valB b).toNat
def decL : List UInt8 → List UInt8
  | a :: b :: r => decB a b :: decL r
  | _ => []
def goodB (a b : UInt8) : Bool := decide (0 ≤ valB a) && decide (0 ≤ valB b)
def goodL : List UInt8 → Bool
  | a :: b :: r => goodB a b && goodL r
  | _ => true

theorem goodL_app : ∀ (l r : List UInt8), l.length % 2 = 0 → goodL (l ++ r) = (goodL l && goodL r)
  | [], r, _ => by simp [goodL]
  | [a], r, h => by simp at h
  | a :: b :: l, r, h => by simp [goodL, goodL_app l r (by simp at h; omega), Bool.and_assoc]
theorem decL_app : ∀ (l r : List UInt8), l.length % 2 = 0 → decL (l ++ r) = decL l ++ decL r
  | [], r, _ => by simp [decL]
  | [a], r, h => by simp at h
  | a :: b :: l, r, h => by simp [decL, decL_app l r (by simp at h; omega)]
theorem decL_length : ∀ l : List UInt8, (decL l).length = l.length / 2
  | [] => rfl
  | [a] => by simp [decL]
  | a :: b :: l => by simp [decL, decL_length l]; omega
theorem decB_toNat (a b : UInt8) (h : goodB a b = true) : ((decB a b).toNat : Int) = 16 * valB a + valB b := by
  have ha := valB_bd a
  have hb := valB_bd b
  simp [goodB] at h
  unfold decB
  rw [UInt8.toNat_ofNat']
  omega
theorem take_two (s : ByteArray) (m : Nat) (h : m + 1 < s.size) : s.data.toList.take (m + 2) = s.data.toList.take m ++ [s[m], s[m + 1]] := by
  rw [List.take_succ_eq_append_getElem (by simpa using h), List.take_succ_eq_append_getElem (by simp; omega)]
  simp; exact ⟨rfl, rfl⟩
/-- One pair more. -/
theorem step_good (s : ByteArray) (m : Nat) (h : m + 1 < s.size) (he : m % 2 = 0) (hg : goodL (s.data.toList.take m) = true) (hp : goodB s[m] s[m + 1] = true) :
    goodL (s.data.toList.take (m + 2)) = true ∧ decL (s.data.toList.take (m + 2)) = decL (s.data.toList.take m) ++ [decB s[m] s[m + 1]] := by
  have hl : (s.data.toList.take m).length % 2 = 0 := by simp; omega
  rw [take_two s m h, goodL_app _ _ hl, decL_app _ _ hl]
  simp [hg, goodL, decL, hp]
theorem step_bad (s : ByteArray) (m : Nat) (h : m + 1 < s.size) (he : m % 2 = 0) (hp : goodB s[m] s[m + 1] = false) : goodL s.data.toList = false := by
  have hl : (s.data.toList.take m).length % 2 = 0 := by simp; omega
  have h1 : goodL (s.data.toList.take m ++ s.data.toList.drop m) = false := by
    rw [goodL_app _ _ hl]
    have hd : s.data.toList.drop m = s[m] :: s[m + 1] :: s.data.toList.drop (m + 2) := by
      rw [List.drop_eq_getElem_cons (by simp; omega), List.drop_eq_getElem_cons (by simp; omega)]
      rfl
    rw [hd]
    simp [goodL, hp]
  rwa [List.take_append_drop] at h1
/-- What the functions answer at a text of even length. -/
def decS (s : ByteArray) : ByteArray := if goodL s.data.toList = true then ⟨(decL s.data.toList).toArray⟩ else ⟨#[]⟩
def decOk (s : ByteArray) : Bool := goodL s.data.toList

theorem dec_bad (s : ByteArray) (h : goodL s.data.toList = false) : Ending.returned (.tuple #[.string ⟨#[]⟩, .bool false]) = .returned (.tuple #[.string (decS s), .bool (decOk s)]) := by
  simp [decS, decOk, h]
theorem dec_good (s : ByteArray) (h : goodL s.data.toList = true) : Ending.returned (.tuple #[.string ⟨(decL s.data.toList).toArray⟩, .bool true]) = .returned (.tuple #[.string (decS s), .bool (decOk s)]) := by
  simp [decS, decOk, h]

theorem index_fin : ∀ n : Fin 256, Lib.indexByte [48, 49, 50, 51, 52, 53, 54, 55, 56, 57, 97, 98, 99, 100, 101, 102] (UInt8.ofNat n.val) = valB (UInt8.ofNat n.val) := by decide +kernel
theorem index_val (b : UInt8) : Lib.indexByte [48, 49, 50, 51, 52, 53, 54, 55, 56, 57, 97, 98, 99, 100, 101, 102] b = valB b := by
  have := index_fin ⟨b.toNat, UInt8.toNat_lt _⟩
  simpa using this

end Go.Proofs.YtcflfpdcphkoeaaDoor
