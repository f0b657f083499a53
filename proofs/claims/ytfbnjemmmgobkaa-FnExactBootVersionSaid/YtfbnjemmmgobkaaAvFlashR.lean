/- Flash that came in. -/
import Derived.Test.YtfbnjemmmgobkaaAMOpen
import Derived.Test.YtfbnjemmmgobkaaAMRepFlash
import Derived.Test.YtfbnjemmmgobkaaAvString
namespace Go.Proofs.Ytfbnjemmmgobkaa
open AM Go.Joins Go.ChangeShapes Go.WideShapes Go.RowKit Go.Deep
set_option linter.unusedVariables false
set_option linter.unusedSimpArgs false
def FlashR.pv (e : FlashR) : List PV := [.view 1 (e.xBanks.map StrE.pv)]
def FlashR.Wf (e : FlashR) : Prop := (e.xBanks.length ≤ maxLen ∧ ∀ y ∈ e.xBanks, y.size ≤ maxLen)
namespace AvFlashR
section
variable {H : Type} {enc : TypeId × Value → H} {w : World} {base : Nat} {spare : Nat → Bool} {held : Bool}

set_option maxRecDepth 100000 in
theorem el {n0 : Nat} {cs : List Value} {x : DataW H × List MemPlace} (hf : DataW.trod enc Try.prog w base spare held n0 46 cs = some x) : ∃ e : FlashR, ElPV w cs e.pv ∧ e.Wf := by
  obtain ⟨_, _, _, _, hlen, _, _⟩ := DataW.trod_struct Try.underlying46 hf
  rw [show Try.prog.cellsOf 46 = 1 by kernel_rfl] at hlen
  match cs, hlen with
  | [c0], _ =>
    obtain ⟨yq_0, nq_0, gq_0⟩ := open_parts Try.underlying46 hf 0 _ rfl
    have hq_0 : DataW.trod enc Try.prog w base spare held nq_0 44 [c0] = some yq_0 := by simpa [show Try.prog.cellsOf 44 = 1 by kernel_rfl] using gq_0
    obtain ⟨lq_0, vq_0, oq_0, mq_0, wq_0⟩ := AvString.view hq_0
    exact ⟨⟨lq_0⟩, elPV_cons vq_0 oq_0 (elPV_nil), ⟨mq_0, wq_0⟩⟩
set_option maxRecDepth 100000 in
theorem opened {r : Reach} {b0 : Nat} {v : Value} {d : DataW H} {p : List MemPlace} (hv : Value.okWide Try.prog w r b0 46 v) (h : DataW.Trod enc Try.prog w base spare held 46 v d p) : ∃ (e : FlashR) (cs : List Value), v = .agg cs.toArray ∧ ElPV w cs e.pv ∧ e.Wf := by
  obtain ⟨cs, rfl, hsz⟩ := okWide_struct Try.underlying46 hv
  obtain ⟨fuel, hf0⟩ := h
  have hf : DataW.trod enc Try.prog w base spare held fuel 46 cs.toList = some _ := hf0
  obtain ⟨e, h1, h2⟩ := el hf
  exact ⟨e, cs.toList, by simp, h1, h2⟩
end
end AvFlashR
end Go.Proofs.Ytfbnjemmmgobkaa
