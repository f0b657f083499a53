/- The plain mathematics of the frame check. -/
import Derived.Test.YtfbnjemmmgobkaaBytesMath
import Derived.Laws.BitsAllLaws
import Derived.Laws.BitsLemmas
namespace Go.Proofs.Ytfbnjemmmgobkaa

theorem ofInt64 (a : Nat) (ha : a < 9223372036854775808) : (BitVec.ofInt 64 (a : Int)).toNat = a := by
  rw [BitVec.ofInt_natCast, BitVec.toNat_ofNat]; exact Nat.mod_eq_of_lt (by omega)
theorem and64 (a b : Nat) (ha : a < 9223372036854775808) (hb : b < 9223372036854775808) : bits .and .i64 (a : Int) (b : Int) = ((a &&& b : Nat) : Int) := by
  have hx : a &&& b < 2 ^ 63 := Nat.and_lt_two_pow _ (by omega)
  show IntKind.i64.wrap ((BitVec.ofInt 64 (a : Int) &&& BitVec.ofInt 64 (b : Int)).toNat : Int) = _
  rw [BitVec.toNat_and, ofInt64 a ha, ofInt64 b hb, IntKind.wrap_i64]
  omega
theorem xor64 (a b : Nat) (ha : a < 9223372036854775808) (hb : b < 9223372036854775808) : bits .xor .i64 (a : Int) (b : Int) = ((a ^^^ b : Nat) : Int) := by
  have hx : a ^^^ b < 2 ^ 63 := Nat.xor_lt_two_pow (by omega) (by omega)
  show IntKind.i64.wrap ((BitVec.ofInt 64 (a : Int) ^^^ BitVec.ofInt 64 (b : Int)).toNat : Int) = _
  rw [BitVec.toNat_xor, ofInt64 a ha, ofInt64 b hb, IntKind.wrap_i64]
  omega

/-- The polynomial, as a number that nothing reckons. -/
def poly : Nat := 3988292384
theorem poly_lt : poly < 2 ^ 32 := by decide
def crcStep (c : Nat) : Nat := if c % 2 = 1 then (c / 2) ^^^ poly else c / 2
theorem crcStep_lt (c : Nat) (h : c < 2 ^ 32) : crcStep c < 2 ^ 32 := by
  unfold crcStep
  split
  · exact Nat.xor_lt_two_pow (by omega) poly_lt
  · omega
def crcN (c : Nat) : Nat → Nat
  | 0 => c
  | k + 1 => crcStep (crcN c k)
theorem crcN_lt (c : Nat) (h : c < 2 ^ 32) (k : Nat) : crcN c k < 2 ^ 32 := by
  induction k with
  | zero => exact h
  | succ k ih => exact crcStep_lt _ ih
def crcByte (c : Nat) (b : UInt8) : Nat := crcN (c ^^^ b.toNat) 8
theorem crcByte_lt (c : Nat) (b : UInt8) (h : c < 2 ^ 32) : crcByte c b < 2 ^ 32 :=
  crcN_lt _ (Nat.xor_lt_two_pow h (by have := UInt8.toNat_lt b; omega)) 8
def crcL (c : Nat) (l : List UInt8) : Nat := l.foldl crcByte c
theorem crcL_lt (l : List UInt8) : ∀ c, c < 2 ^ 32 → crcL c l < 2 ^ 32 := by
  induction l with
  | nil => intro c h; exact h
  | cons b l ih => intro c h; exact ih _ (crcByte_lt c b h)
def crc (s : ByteArray) : Nat := 4294967295 - crcL 4294967295 s.data.toList
theorem crc_lt (s : ByteArray) : crc s ≤ 4294967295 := Nat.sub_le _ _
theorem crcL_take (s : ByteArray) (k : Nat) (h : k < s.size) (c : Nat) : crcL c (s.data.toList.take (k + 1)) = crcByte (crcL c (s.data.toList.take k)) s[k] := by
  rw [List.take_succ_eq_append_getElem (by simpa using h)]
  simp only [crcL, List.foldl_append, List.foldl_cons, List.foldl_nil]
  rfl
/-- The check's bytes, the lowest first. -/
def fcs (s : ByteArray) : ByteArray := ⟨#[low (crc s), low ((crc s : Int) / 256), low ((crc s : Int) / 65536), low ((crc s : Int) / 16777216)]⟩
def withF (s : ByteArray) : ByteArray := s ++ fcs s
theorem withF_size (s : ByteArray) : (withF s).size = s.size + 4 := by
  unfold withF; rw [ByteArray.size_append]; rfl
/-- Whether a string is a protected one, and what it protects. -/
def bodyF (s : ByteArray) : ByteArray := s.extract 0 (s.size - 4)
def goodF (s : ByteArray) : Bool := decide (4 ≤ s.size) && decide (withF (bodyF s) = s)

end Go.Proofs.Ytfbnjemmmgobkaa
