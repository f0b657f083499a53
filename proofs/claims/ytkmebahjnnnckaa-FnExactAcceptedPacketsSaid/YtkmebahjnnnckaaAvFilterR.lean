/- Filter that came in. -/
import Derived.Test.YtkmebahjnnnckaaAMOpen
import Derived.Test.YtkmebahjnnnckaaAMRepFilter
import Derived.Test.YtkmebahjnnnckaaAvInt
namespace Go.Proofs.Ytkmebahjnnnckaa
open AM Go.Joins Go.ChangeShapes Go.WideShapes Go.RowKit Go.Deep
set_option linter.unusedVariables false
set_option linter.unusedSimpArgs false
def FilterR.pv (e : FilterR) : List PV := [pI (e.xMac), .val (.bool (e.xPromiscuous)), .view 1 (e.xVlans.map IntE.pv)]
def FilterR.Wf (e : FilterR) : Prop := I64 e.xMac ∧ (e.xVlans.length ≤ maxLen ∧ ∀ y ∈ e.xVlans, I64 y)
namespace AvFilterR
section
variable {H : Type} {enc : TypeId × Value → H} {w : World} {base : Nat} {spare : Nat → Bool} {held : Bool}

set_option maxRecDepth 100000 in
theorem el {n0 : Nat} {cs : List Value} {x : DataW H × List MemPlace} (hf : DataW.trod enc Try.prog w base spare held n0 55 cs = some x) : ∃ e : FilterR, ElPV w cs e.pv ∧ e.Wf := by
  obtain ⟨_, _, _, _, hlen, _, _⟩ := DataW.trod_struct Try.underlying55 hf
  rw [show Try.prog.cellsOf 55 = 3 by kernel_rfl] at hlen
  match cs, hlen with
  | [c0, c1, c2], _ =>
    obtain ⟨yq_0, nq_0, gq_0⟩ := open_parts Try.underlying55 hf 0 _ rfl
    have hq_0 : DataW.trod enc Try.prog w base spare held nq_0 3 [c0] = some yq_0 := by simpa [show Try.prog.cellsOf 3 = 1 by kernel_rfl] using gq_0
    obtain ⟨aq_0, rfl, wq_0⟩ := part_int Try.underlying3 hq_0
    obtain ⟨yq_1, nq_1, gq_1⟩ := open_parts Try.underlying55 hf 1 _ rfl
    have hq_1 : DataW.trod enc Try.prog w base spare held nq_1 4 [c1] = some yq_1 := by simpa [show Try.prog.cellsOf 4 = 1 by kernel_rfl] using gq_1
    obtain ⟨aq_1, rfl⟩ := part_bool Try.underlying4 hq_1
    obtain ⟨yq_2, nq_2, gq_2⟩ := open_parts Try.underlying55 hf 2 _ rfl
    have hq_2 : DataW.trod enc Try.prog w base spare held nq_2 53 [c2] = some yq_2 := by simpa [show Try.prog.cellsOf 53 = 1 by kernel_rfl] using gq_2
    obtain ⟨lq_2, vq_2, oq_2, mq_2, wq_2⟩ := AvInt.view hq_2
    exact ⟨⟨aq_0, aq_1, lq_2⟩, elPV_val rfl (elPV_val rfl (elPV_cons vq_2 oq_2 (elPV_nil))), ⟨i64_bd wq_0, ⟨mq_2, wq_2⟩⟩⟩
set_option maxRecDepth 100000 in
theorem opened {r : Reach} {b0 : Nat} {v : Value} {d : DataW H} {p : List MemPlace} (hv : Value.okWide Try.prog w r b0 55 v) (h : DataW.Trod enc Try.prog w base spare held 55 v d p) : ∃ (e : FilterR) (cs : List Value), v = .agg cs.toArray ∧ ElPV w cs e.pv ∧ e.Wf := by
  obtain ⟨cs, rfl, hsz⟩ := okWide_struct Try.underlying55 hv
  obtain ⟨fuel, hf0⟩ := h
  have hf : DataW.trod enc Try.prog w base spare held fuel 55 cs.toList = some _ := hf0
  obtain ⟨e, h1, h2⟩ := el hf
  exact ⟨e, cs.toList, by simp, h1, h2⟩
end
end AvFilterR
end Go.Proofs.Ytkmebahjnnnckaa
