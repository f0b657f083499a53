/- PauseLink that came in. -/
import Derived.Test.YtfbnjemmmgobkaaAMOpen
import Derived.Test.YtfbnjemmmgobkaaAMRepPauseLink
import Derived.Test.YtfbnjemmmgobkaaAvInt
import Derived.Test.YtfbnjemmmgobkaaAvBool
namespace Go.Proofs.Ytfbnjemmmgobkaa
open AM Go.Joins Go.ChangeShapes Go.WideShapes Go.RowKit Go.Deep
set_option linter.unusedVariables false
set_option linter.unusedSimpArgs false
def PauseLinkR.pv (e : PauseLinkR) : List PV := [pI (e.xCapacity), pI (e.xHigh), pI (e.xLow), pI (e.xDelay), pI (e.xFill), .val (.bool (e.xPaused)), .view 1 (e.xFlying.map IntE.pv), .view 1 (e.xSignals.map BoolE.pv), .val (.bool (e.xStopped)), pI (e.xLost)]
def PauseLinkR.Wf (e : PauseLinkR) : Prop := I64 e.xCapacity ∧ I64 e.xHigh ∧ I64 e.xLow ∧ I64 e.xDelay ∧ I64 e.xFill ∧ (e.xFlying.length ≤ maxLen ∧ ∀ y ∈ e.xFlying, I64 y) ∧ (e.xSignals.length ≤ maxLen ∧ ∀ y ∈ e.xSignals, True) ∧ I64 e.xLost
namespace AvPauseLinkR
section
variable {H : Type} {enc : TypeId × Value → H} {w : World} {base : Nat} {spare : Nat → Bool} {held : Bool}

set_option maxRecDepth 100000 in
theorem el {n0 : Nat} {cs : List Value} {x : DataW H × List MemPlace} (hf : DataW.trod enc Try.prog w base spare held n0 112 cs = some x) : ∃ e : PauseLinkR, ElPV w cs e.pv ∧ e.Wf := by
  obtain ⟨_, _, _, _, hlen, _, _⟩ := DataW.trod_struct Try.underlying112 hf
  rw [show Try.prog.cellsOf 112 = 10 by kernel_rfl] at hlen
  match cs, hlen with
  | [c0, c1, c2, c3, c4, c5, c6, c7, c8, c9], _ =>
    obtain ⟨yq_0, nq_0, gq_0⟩ := open_parts Try.underlying112 hf 0 _ rfl
    have hq_0 : DataW.trod enc Try.prog w base spare held nq_0 3 [c0] = some yq_0 := by simpa [show Try.prog.cellsOf 3 = 1 by kernel_rfl] using gq_0
    obtain ⟨aq_0, rfl, wq_0⟩ := part_int Try.underlying3 hq_0
    obtain ⟨yq_1, nq_1, gq_1⟩ := open_parts Try.underlying112 hf 1 _ rfl
    have hq_1 : DataW.trod enc Try.prog w base spare held nq_1 3 [c1] = some yq_1 := by simpa [show Try.prog.cellsOf 3 = 1 by kernel_rfl] using gq_1
    obtain ⟨aq_1, rfl, wq_1⟩ := part_int Try.underlying3 hq_1
    obtain ⟨yq_2, nq_2, gq_2⟩ := open_parts Try.underlying112 hf 2 _ rfl
    have hq_2 : DataW.trod enc Try.prog w base spare held nq_2 3 [c2] = some yq_2 := by simpa [show Try.prog.cellsOf 3 = 1 by kernel_rfl] using gq_2
    obtain ⟨aq_2, rfl, wq_2⟩ := part_int Try.underlying3 hq_2
    obtain ⟨yq_3, nq_3, gq_3⟩ := open_parts Try.underlying112 hf 3 _ rfl
    have hq_3 : DataW.trod enc Try.prog w base spare held nq_3 3 [c3] = some yq_3 := by simpa [show Try.prog.cellsOf 3 = 1 by kernel_rfl] using gq_3
    obtain ⟨aq_3, rfl, wq_3⟩ := part_int Try.underlying3 hq_3
    obtain ⟨yq_4, nq_4, gq_4⟩ := open_parts Try.underlying112 hf 4 _ rfl
    have hq_4 : DataW.trod enc Try.prog w base spare held nq_4 3 [c4] = some yq_4 := by simpa [show Try.prog.cellsOf 3 = 1 by kernel_rfl] using gq_4
    obtain ⟨aq_4, rfl, wq_4⟩ := part_int Try.underlying3 hq_4
    obtain ⟨yq_5, nq_5, gq_5⟩ := open_parts Try.underlying112 hf 5 _ rfl
    have hq_5 : DataW.trod enc Try.prog w base spare held nq_5 4 [c5] = some yq_5 := by simpa [show Try.prog.cellsOf 4 = 1 by kernel_rfl] using gq_5
    obtain ⟨aq_5, rfl⟩ := part_bool Try.underlying4 hq_5
    obtain ⟨yq_6, nq_6, gq_6⟩ := open_parts Try.underlying112 hf 6 _ rfl
    have hq_6 : DataW.trod enc Try.prog w base spare held nq_6 22 [c6] = some yq_6 := by simpa [show Try.prog.cellsOf 22 = 1 by kernel_rfl] using gq_6
    obtain ⟨lq_6, vq_6, oq_6, mq_6, wq_6⟩ := AvInt.view hq_6
    obtain ⟨yq_7, nq_7, gq_7⟩ := open_parts Try.underlying112 hf 7 _ rfl
    have hq_7 : DataW.trod enc Try.prog w base spare held nq_7 110 [c7] = some yq_7 := by simpa [show Try.prog.cellsOf 110 = 1 by kernel_rfl] using gq_7
    obtain ⟨lq_7, vq_7, oq_7, mq_7, wq_7⟩ := AvBool.view hq_7
    obtain ⟨yq_8, nq_8, gq_8⟩ := open_parts Try.underlying112 hf 8 _ rfl
    have hq_8 : DataW.trod enc Try.prog w base spare held nq_8 4 [c8] = some yq_8 := by simpa [show Try.prog.cellsOf 4 = 1 by kernel_rfl] using gq_8
    obtain ⟨aq_8, rfl⟩ := part_bool Try.underlying4 hq_8
    obtain ⟨yq_9, nq_9, gq_9⟩ := open_parts Try.underlying112 hf 9 _ rfl
    have hq_9 : DataW.trod enc Try.prog w base spare held nq_9 3 [c9] = some yq_9 := by simpa [show Try.prog.cellsOf 3 = 1 by kernel_rfl] using gq_9
    obtain ⟨aq_9, rfl, wq_9⟩ := part_int Try.underlying3 hq_9
    exact ⟨⟨aq_0, aq_1, aq_2, aq_3, aq_4, aq_5, lq_6, lq_7, aq_8, aq_9⟩, elPV_val rfl (elPV_val rfl (elPV_val rfl (elPV_val rfl (elPV_val rfl (elPV_val rfl (elPV_cons vq_6 oq_6 (elPV_cons vq_7 oq_7 (elPV_val rfl (elPV_val rfl (elPV_nil)))))))))), ⟨i64_bd wq_0, i64_bd wq_1, i64_bd wq_2, i64_bd wq_3, i64_bd wq_4, ⟨mq_6, wq_6⟩, ⟨mq_7, wq_7⟩, i64_bd wq_9⟩⟩
set_option maxRecDepth 100000 in
theorem opened {r : Reach} {b0 : Nat} {v : Value} {d : DataW H} {p : List MemPlace} (hv : Value.okWide Try.prog w r b0 112 v) (h : DataW.Trod enc Try.prog w base spare held 112 v d p) : ∃ (e : PauseLinkR) (cs : List Value), v = .agg cs.toArray ∧ ElPV w cs e.pv ∧ e.Wf := by
  obtain ⟨cs, rfl, hsz⟩ := okWide_struct Try.underlying112 hv
  obtain ⟨fuel, hf0⟩ := h
  have hf : DataW.trod enc Try.prog w base spare held fuel 112 cs.toList = some _ := hf0
  obtain ⟨e, h1, h2⟩ := el hf
  exact ⟨e, cs.toList, by simp, h1, h2⟩
end
end AvPauseLinkR
end Go.Proofs.Ytfbnjemmmgobkaa
