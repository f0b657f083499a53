/- Flat structs: which are valid. -/
import Derived.Test.YtfbnjemmmgobkaaFlatMath
import Derived.Test.YtfbnjemmmgobkaaCrcMath
namespace Go.Proofs.Ytfbnjemmmgobkaa
def Pow2to16 (n : Int) : Prop := n = 2 ∨ n = 4 ∨ n = 8 ∨ n = 16
instance (n : Int) : Decidable (Pow2to16 n) := by unfold Pow2to16; infer_instance
def DescM.Ok (e : DescM) : Prop := (0 ≤ e.xOp ∧ e.xOp ≤ 3) ∧ (0 ≤ e.xFlags ∧ e.xFlags ≤ 3) ∧ (0 ≤ e.xLen ∧ e.xLen ≤ 65535) ∧ (0 ≤ e.xAt ∧ e.xAt ≤ 4294967295) ∧ (0 ≤ e.xSize ∧ e.xSize ≤ 65535) ∧ (0 ≤ e.xCookie ∧ e.xCookie ≤ 65535)
instance (e : DescM) : Decidable e.Ok := by unfold DescM.Ok; infer_instance
def CompletionM.Ok (e : CompletionM) : Prop := (0 ≤ e.xCookie ∧ e.xCookie ≤ 65535) ∧ (0 ≤ e.xLen ∧ e.xLen ≤ 65535) ∧ (0 ≤ e.xSize ∧ e.xSize ≤ 65535) ∧ (0 ≤ e.xCount ∧ e.xCount ≤ 65535) ∧ (0 ≤ e.xHash ∧ e.xHash ≤ 4294967295)
instance (e : CompletionM) : Decidable e.Ok := by unfold CompletionM.Ok; infer_instance
def CompletionQueueM.Ok (e : CompletionQueueM) : Prop := (0 ≤ e.xBase ∧ e.xBase ≤ 130944) ∧ Pow2to16 e.xSize ∧ (0 ≤ e.xCount ∧ e.xCount ≤ 2 * e.xSize - 1)
instance (e : CompletionQueueM) : Decidable e.Ok := by unfold CompletionQueueM.Ok; infer_instance
def usedOf (size head tail : Int) : Int := if Pow2to16 size then (tail - head) % (2 * size) else 0
def RingM.used (e : RingM) : Int := usedOf e.xSize e.xHead e.xTail
def RingM.Ok (e : RingM) : Prop := (0 ≤ e.xBase ∧ e.xBase ≤ 130944) ∧ Pow2to16 e.xSize ∧ (0 ≤ e.xHead ∧ e.xHead ≤ 2 * e.xSize - 1) ∧ (0 ≤ e.xTail ∧ e.xTail ≤ 2 * e.xSize - 1) ∧ e.used ≤ e.xSize
instance (e : RingM) : Decidable e.Ok := by unfold RingM.Ok; infer_instance
def RuleM.Ok (e : RuleM) : Prop := (0 ≤ e.xPriority ∧ e.xPriority ≤ 1000) ∧ (e.xKind = 0 ∨ e.xKind = 6 ∨ e.xKind = 17) ∧ (0 ≤ e.xSrcIp ∧ e.xSrcIp ≤ 4294967295) ∧ (0 ≤ e.xSrcBits ∧ e.xSrcBits ≤ 32) ∧
  (0 ≤ e.xFirstPort ∧ e.xFirstPort ≤ e.xLastPort ∧ e.xLastPort ≤ 65535) ∧ (-2 ≤ e.xVlan ∧ e.xVlan ≤ 4095) ∧ ((e.xAction = 0 ∧ 0 ≤ e.xQueue ∧ e.xQueue ≤ 3) ∨ (e.xAction = 1 ∧ e.xQueue = 0))
instance (e : RuleM) : Decidable e.Ok := by unfold RuleM.Ok; infer_instance

/-- The low bits of an int of 64 bits are its remainder, of a negative one too. -/
theorem and_low (x : Int) (k : Nat) (hk : k < 63) : bits .and .i64 x ((2 ^ k - 1 : Nat) : Int) = x % (2 ^ k : Nat) := by
  have hb : (2 : Nat) ^ k ≤ 2 ^ 62 := Nat.pow_le_pow_right (by decide) (by omega)
  have hp : 0 < (2 : Nat) ^ k := Nat.two_pow_pos k
  show IntKind.i64.wrap ((BitVec.ofInt 64 x &&& BitVec.ofInt 64 ((2 ^ k - 1 : Nat) : Int)).toNat : Int) = _
  rw [BitVec.toNat_and, ofInt64 _ (by omega), Nat.and_two_pow_sub_one_eq_mod, BitVec.toNat_ofInt]
  have h1 : (((x % ((2 ^ 64 : Nat) : Int)).toNat % 2 ^ k : Nat) : Int) = x % (2 ^ k : Nat) := by
    have h2 : 0 ≤ x % ((2 ^ 64 : Nat) : Int) := Int.emod_nonneg _ (by decide)
    rw [Int.natCast_emod, Int.toNat_of_nonneg h2]
    exact Int.emod_emod_of_dvd _ (Int.natCast_dvd_natCast.2 (Nat.pow_dvd_pow 2 (by omega)))
  rw [h1, IntKind.wrap_i64]
  have h3 : 0 ≤ x % (2 ^ k : Nat) := Int.emod_nonneg _ (by omega)
  have h4 : x % (2 ^ k : Nat) < (2 ^ k : Nat) := Int.emod_lt_of_pos _ (by omega)
  omega
theorem wrap_mod (x : Int) (k : Nat) (hk : k < 63) : IntKind.i64.wrap x % (2 ^ k : Nat) = x % (2 ^ k : Nat) := by
  rw [IntKind.wrap_i64]
  have hd : ((2 ^ k : Nat) : Int) ∣ 18446744073709551616 := by
    have : (2 ^ k : Nat) ∣ 2 ^ 64 := Nat.pow_dvd_pow 2 (by omega)
    exact Int.natCast_dvd_natCast.2 this
  have hd2 : ((2 ^ k : Nat) : Int) ∣ 9223372036854775808 := by
    have : (2 ^ k : Nat) ∣ 2 ^ 63 := Nat.pow_dvd_pow 2 (by omega)
    exact Int.natCast_dvd_natCast.2 this
  rw [Int.sub_emod, Int.emod_emod_of_dvd _ hd, ← Int.sub_emod]
  obtain ⟨c, hc⟩ := hd2
  rw [hc, Int.add_sub_cancel]
theorem wrap64_eq (x : Int) : RowKit.wrap64 x = IntKind.i64.wrap x := (IntWalk.i64_left x).symm
theorem and_low_wrap (x : Int) (k : Nat) (hk : k < 63) : bits .and .i64 (IntKind.i64.wrap x) ((2 ^ k - 1 : Nat) : Int) = x % (2 ^ k : Nat) := by
  rw [and_low _ k hk, wrap_mod _ k hk]
end Go.Proofs.Ytfbnjemmmgobkaa
