/- Rows of Slot that came in. -/
import Derived.Test.YtkmebahjnnnckaaAMOpen
import Derived.Test.YtkmebahjnnnckaaAMRowSlot
namespace Go.Proofs.Ytkmebahjnnnckaa
open AM Go.Joins Go.ChangeShapes Go.WideShapes Go.RowKit Go.Deep
set_option linter.unusedVariables false
set_option linter.unusedSimpArgs false
namespace AvSlot
section
variable {H : Type} {enc : TypeId × Value → H} {w : World} {base : Nat} {spare : Nat → Bool} {held : Bool}

set_option maxRecDepth 100000 in
theorem el {n0 : Nat} {cs : List Value} {x : DataW H × List MemPlace} (hf : DataW.trod enc Try.prog w base spare held n0 249 cs = some x) : ∃ e : SlotM, ElPV w cs e.pv ∧ e.Wf := by
  obtain ⟨_, _, _, _, hlen, _, _⟩ := DataW.trod_struct Try.underlying249 hf
  rw [show Try.prog.cellsOf 249 = 7 by kernel_rfl] at hlen
  match cs, hlen with
  | [c0, c1, c2, c3, c4, c5, c6], _ =>
    obtain ⟨yq_0, nq_0, gq_0⟩ := open_parts Try.underlying249 hf 0 _ rfl
    have hq_0 : DataW.trod enc Try.prog w base spare held nq_0 3 [c0] = some yq_0 := by simpa [show Try.prog.cellsOf 3 = 1 by kernel_rfl] using gq_0
    obtain ⟨aq_0, rfl, wq_0⟩ := part_int Try.underlying3 hq_0
    obtain ⟨yq_1, nq_1, gq_1⟩ := open_parts Try.underlying249 hf 1 _ rfl
    have hq_1 : DataW.trod enc Try.prog w base spare held nq_1 114 [c1, c2, c3, c4, c5] = some yq_1 := by simpa [show Try.prog.cellsOf 114 = 5 by kernel_rfl] using gq_1
    obtain ⟨yq_1_0, nq_1_0, gq_1_0⟩ := open_parts Try.underlying114 hq_1 0 _ rfl
    have hq_1_0 : DataW.trod enc Try.prog w base spare held nq_1_0 3 [c1] = some yq_1_0 := by simpa [show Try.prog.cellsOf 3 = 1 by kernel_rfl] using gq_1_0
    obtain ⟨aq_1_0, rfl, wq_1_0⟩ := part_int Try.underlying3 hq_1_0
    obtain ⟨yq_1_1, nq_1_1, gq_1_1⟩ := open_parts Try.underlying114 hq_1 1 _ rfl
    have hq_1_1 : DataW.trod enc Try.prog w base spare held nq_1_1 3 [c2] = some yq_1_1 := by simpa [show Try.prog.cellsOf 3 = 1 by kernel_rfl] using gq_1_1
    obtain ⟨aq_1_1, rfl, wq_1_1⟩ := part_int Try.underlying3 hq_1_1
    obtain ⟨yq_1_2, nq_1_2, gq_1_2⟩ := open_parts Try.underlying114 hq_1 2 _ rfl
    have hq_1_2 : DataW.trod enc Try.prog w base spare held nq_1_2 3 [c3] = some yq_1_2 := by simpa [show Try.prog.cellsOf 3 = 1 by kernel_rfl] using gq_1_2
    obtain ⟨aq_1_2, rfl, wq_1_2⟩ := part_int Try.underlying3 hq_1_2
    obtain ⟨yq_1_3, nq_1_3, gq_1_3⟩ := open_parts Try.underlying114 hq_1 3 _ rfl
    have hq_1_3 : DataW.trod enc Try.prog w base spare held nq_1_3 3 [c4] = some yq_1_3 := by simpa [show Try.prog.cellsOf 3 = 1 by kernel_rfl] using gq_1_3
    obtain ⟨aq_1_3, rfl, wq_1_3⟩ := part_int Try.underlying3 hq_1_3
    obtain ⟨yq_1_4, nq_1_4, gq_1_4⟩ := open_parts Try.underlying114 hq_1 4 _ rfl
    have hq_1_4 : DataW.trod enc Try.prog w base spare held nq_1_4 3 [c5] = some yq_1_4 := by simpa [show Try.prog.cellsOf 3 = 1 by kernel_rfl] using gq_1_4
    obtain ⟨aq_1_4, rfl, wq_1_4⟩ := part_int Try.underlying3 hq_1_4
    obtain ⟨yq_2, nq_2, gq_2⟩ := open_parts Try.underlying249 hf 2 _ rfl
    have hq_2 : DataW.trod enc Try.prog w base spare held nq_2 3 [c6] = some yq_2 := by simpa [show Try.prog.cellsOf 3 = 1 by kernel_rfl] using gq_2
    obtain ⟨aq_2, rfl, wq_2⟩ := part_int Try.underlying3 hq_2
    exact ⟨⟨aq_0, ⟨aq_1_0, aq_1_1, aq_1_2, aq_1_3, aq_1_4⟩, aq_2⟩, elPV_val rfl (elPV_val rfl (elPV_val rfl (elPV_val rfl (elPV_val rfl (elPV_val rfl (elPV_val rfl (elPV_nil))))))), ⟨i64_bd wq_0, i64_bd wq_1_0, i64_bd wq_1_1, i64_bd wq_1_2, i64_bd wq_1_3, i64_bd wq_1_4, i64_bd wq_2⟩⟩
theorem view {fuel : Nat} {c : Value} {x : DataW H × List MemPlace} (h : DataW.trod enc Try.prog w base spare held fuel 94 [c] = some x) : ∃ l : List SlotM, PR (Lt w) w (.view 7 (l.map SlotM.pv)) c ∧ c.oneCell' = true ∧ l.length ≤ maxLen ∧ ∀ e ∈ l, e.Wf :=
  open_view Try.underlying94 (by kernel_rfl) (by decide) (fun _ => rfl) (fun n cs y hf => el hf) h
end
end AvSlot
end Go.Proofs.Ytkmebahjnnnckaa
