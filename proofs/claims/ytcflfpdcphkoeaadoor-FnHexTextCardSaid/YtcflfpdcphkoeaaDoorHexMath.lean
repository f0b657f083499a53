/- The plain mathematics of hexadecimal text: the digits of a byte, the text of a list of bytes. -/
namespace Go.Proofs.YtcflfpdcphkoeaaDoor

/-- The digit of a number from 0 to 15. -/
def fig (n : Int) : Int := if n < 10 then 48 + n else 87 + n
def figB (n : Nat) : UInt8 := UInt8.ofNat (fig n).toNat
def hexB (b : UInt8) : List UInt8 := [figB (b.toNat / 16), figB (b.toNat % 16)]
def hexL : List UInt8 → List UInt8
  | [] => []
  | b :: l => hexB b ++ hexL l

theorem hexL_length (l : List UInt8) : (hexL l).length = 2 * l.length := by
  induction l with
  | nil => rfl
  | cons b l ih => simp [hexL, hexB, ih]; omega
theorem hexL_append (a b : List UInt8) : hexL (a ++ b) = hexL a ++ hexL b := by
  induction a with
  | nil => rfl
  | cons x a ih => simp [hexL, ih]
theorem fig_lt (n : Nat) (h : n < 16) : 0 ≤ fig n ∧ fig n < 256 := by unfold fig; split <;> omega
theorem figB_toNat (n : Nat) (h : n < 16) : ((figB n).toNat : Int) = fig n := by
  have := fig_lt n h
  unfold figB
  rw [UInt8.toNat_ofNat']
  omega
theorem hexL_take (s : ByteArray) (k : Nat) (h : k < s.size) : hexL (s.data.toList.take (k + 1)) = hexL (s.data.toList.take k) ++ hexB s[k] := by
  rw [List.take_succ_eq_append_getElem (by simpa using h), hexL_append]; simp [hexL]; rfl

end Go.Proofs.YtcflfpdcphkoeaaDoor
