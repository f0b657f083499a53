/- Interrupt vectors: models. -/
import Derived.Test.YtdcjbojigmgcgaaFlatMath
namespace Go.Proofs.Ytdcjbojigmgcgaa
def VectorM.due (e : VectorM) : Bool := decide (1 ≤ e.xCount ∧ (e.xMaxCount ≤ e.xCount ∨ e.xMaxTime ≤ e.xTime))
def VectorM.check (e : VectorM) : VectorM := ⟨e.xMaxCount, e.xMaxTime, e.xCount, e.xTime, e.xMasked, e.due && !e.xMasked⟩
def VectorM.check2 (e : VectorM) : VectorM := ⟨e.xMaxCount, e.xMaxTime, e.xCount, e.xTime, e.xMasked, e.xRaised || (e.due && !e.xMasked)⟩
def VectorM.Ok (e : VectorM) : Prop := (1 ≤ e.xMaxCount ∧ e.xMaxCount ≤ 64) ∧ (0 ≤ e.xMaxTime ∧ e.xMaxTime ≤ 64) ∧ (0 ≤ e.xCount ∧ e.xCount ≤ 1000000) ∧ (0 ≤ e.xTime ∧ e.xTime ≤ 1000000) ∧ (0 < e.xCount ∨ e.xTime = 0) ∧ e.xRaised = (e.due && !e.xMasked)
instance (e : VectorM) : Decidable e.Ok := by unfold VectorM.Ok; infer_instance
def VectorM.new (c t : Int) : VectorM × Bool := if (1 ≤ c ∧ c ≤ 64) ∧ (0 ≤ t ∧ t ≤ 64) then (⟨c, t, 0, 0, false, false⟩, true) else (⟨0, 0, 0, 0, false, false⟩, false)
def VectorM.add (e : VectorM) : VectorM := if e.Ok then VectorM.check ⟨e.xMaxCount, e.xMaxTime, min (e.xCount + 1) 1000000, e.xTime, e.xMasked, e.xRaised⟩ else e
def VectorM.tick (e : VectorM) : VectorM := if e.Ok ∧ e.xCount ≠ 0 then VectorM.check ⟨e.xMaxCount, e.xMaxTime, e.xCount, min (e.xTime + 1) 1000000, e.xMasked, e.xRaised⟩ else e
def VectorM.take (e : VectorM) : VectorM × Bool := if e.Ok ∧ e.xRaised = true then (⟨e.xMaxCount, e.xMaxTime, 0, 0, true, false⟩, true) else (e, false)
def VectorM.mask (e : VectorM) (m : Bool) : VectorM := if e.Ok then VectorM.check ⟨e.xMaxCount, e.xMaxTime, e.xCount, e.xTime, m, e.xRaised⟩ else e
def VectorM.ticks (e : VectorM) : Int := if e.Ok ∧ e.xMasked = false ∧ e.xCount ≠ 0 then (if e.xRaised then 0 else e.xMaxTime - e.xTime) else -1
end Go.Proofs.Ytdcjbojigmgcgaa
