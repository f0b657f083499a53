/- Token buckets: models. -/
import Derived.Test.YtfbnjemmmgobkaaFlatMath
namespace Go.Proofs.Ytfbnjemmmgobkaa
def BucketM.Ok (e : BucketM) : Prop := (0 ≤ e.xRate ∧ e.xRate ≤ 10000) ∧ (0 ≤ e.xBurst ∧ e.xBurst ≤ 100000) ∧ (0 ≤ e.xTokens ∧ e.xTokens ≤ e.xBurst)
instance (e : BucketM) : Decidable e.Ok := by unfold BucketM.Ok; infer_instance
def BucketM.refill (e : BucketM) (n : Int) : BucketM := if e.Ok ∧ (0 ≤ n ∧ n ≤ 1000000) then ⟨e.xRate, e.xBurst, min (e.xTokens + e.xRate * n) e.xBurst⟩ else e
def BucketM.spend (e : BucketM) (n : Int) : BucketM × Bool := if e.Ok ∧ (0 ≤ n ∧ n ≤ e.xTokens) then (⟨e.xRate, e.xBurst, e.xTokens - n⟩, true) else (e, false)
def BucketM.wait (e : BucketM) (n : Int) : Int := if e.Ok ∧ (0 ≤ n ∧ n ≤ e.xBurst) then (if n ≤ e.xTokens then 0 else if e.xRate = 0 then -1 else (n - e.xTokens + e.xRate - 1) / e.xRate) else -1
theorem mul_bd {a b A B : Int} (h0 : 0 ≤ a) (h1 : a ≤ A) (h2 : 0 ≤ b) (h3 : b ≤ B) : 0 ≤ a * b ∧ a * b ≤ A * B :=
  ⟨Int.mul_nonneg h0 h2, Int.mul_le_mul h1 h3 h2 (Int.le_trans h0 h1)⟩
end Go.Proofs.Ytfbnjemmmgobkaa
