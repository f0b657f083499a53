/- FlowTable that came in. -/
import Derived.Test.YtkmebahjnnnckaaAMOpen
import Derived.Test.YtkmebahjnnnckaaAMRepFlowTable
import Derived.Test.YtkmebahjnnnckaaAvSlot
namespace Go.Proofs.Ytkmebahjnnnckaa
open AM Go.Joins Go.ChangeShapes Go.WideShapes Go.RowKit Go.Deep
set_option linter.unusedVariables false
set_option linter.unusedSimpArgs false
def FlowTableR.pv (e : FlowTableR) : List PV := [.view 7 (e.xSlots.map SlotM.pv)]
def FlowTableR.Wf (e : FlowTableR) : Prop := (e.xSlots.length ≤ maxLen ∧ ∀ y ∈ e.xSlots, y.Wf)
namespace AvFlowTableR
section
variable {H : Type} {enc : TypeId × Value → H} {w : World} {base : Nat} {spare : Nat → Bool} {held : Bool}

set_option maxRecDepth 100000 in
theorem el {n0 : Nat} {cs : List Value} {x : DataW H × List MemPlace} (hf : DataW.trod enc Try.prog w base spare held n0 96 cs = some x) : ∃ e : FlowTableR, ElPV w cs e.pv ∧ e.Wf := by
  obtain ⟨_, _, _, _, hlen, _, _⟩ := DataW.trod_struct Try.underlying96 hf
  rw [show Try.prog.cellsOf 96 = 1 by kernel_rfl] at hlen
  match cs, hlen with
  | [c0], _ =>
    obtain ⟨yq_0, nq_0, gq_0⟩ := open_parts Try.underlying96 hf 0 _ rfl
    have hq_0 : DataW.trod enc Try.prog w base spare held nq_0 94 [c0] = some yq_0 := by simpa [show Try.prog.cellsOf 94 = 1 by kernel_rfl] using gq_0
    obtain ⟨lq_0, vq_0, oq_0, mq_0, wq_0⟩ := AvSlot.view hq_0
    exact ⟨⟨lq_0⟩, elPV_cons vq_0 oq_0 (elPV_nil), ⟨mq_0, wq_0⟩⟩
set_option maxRecDepth 100000 in
theorem opened {r : Reach} {b0 : Nat} {v : Value} {d : DataW H} {p : List MemPlace} (hv : Value.okWide Try.prog w r b0 96 v) (h : DataW.Trod enc Try.prog w base spare held 96 v d p) : ∃ (e : FlowTableR) (cs : List Value), v = .agg cs.toArray ∧ ElPV w cs e.pv ∧ e.Wf := by
  obtain ⟨cs, rfl, hsz⟩ := okWide_struct Try.underlying96 hv
  obtain ⟨fuel, hf0⟩ := h
  have hf : DataW.trod enc Try.prog w base spare held fuel 96 cs.toList = some _ := hf0
  obtain ⟨e, h1, h2⟩ := el hf
  exact ⟨e, cs.toList, by simp, h1, h2⟩
end
end AvFlowTableR
end Go.Proofs.Ytkmebahjnnnckaa
