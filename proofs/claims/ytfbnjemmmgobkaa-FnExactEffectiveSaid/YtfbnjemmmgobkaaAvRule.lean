/- Rows of Rule that came in. -/
import Derived.Test.YtfbnjemmmgobkaaAMOpen
import Derived.Test.YtfbnjemmmgobkaaAMRowRule
namespace Go.Proofs.Ytfbnjemmmgobkaa
open AM Go.Joins Go.ChangeShapes Go.WideShapes Go.RowKit Go.Deep
set_option linter.unusedVariables false
set_option linter.unusedSimpArgs false
namespace AvRule
section
variable {H : Type} {enc : TypeId × Value → H} {w : World} {base : Nat} {spare : Nat → Bool} {held : Bool}

set_option maxRecDepth 100000 in
theorem el {n0 : Nat} {cs : List Value} {x : DataW H × List MemPlace} (hf : DataW.trod enc Try.prog w base spare held n0 147 cs = some x) : ∃ e : RuleM, ElPV w cs e.pv ∧ e.Wf := by
  obtain ⟨_, _, _, _, hlen, _, _⟩ := DataW.trod_struct Try.underlying147 hf
  rw [show Try.prog.cellsOf 147 = 9 by kernel_rfl] at hlen
  match cs, hlen with
  | [c0, c1, c2, c3, c4, c5, c6, c7, c8], _ =>
    obtain ⟨yq_0, nq_0, gq_0⟩ := open_parts Try.underlying147 hf 0 _ rfl
    have hq_0 : DataW.trod enc Try.prog w base spare held nq_0 3 [c0] = some yq_0 := by simpa [show Try.prog.cellsOf 3 = 1 by kernel_rfl] using gq_0
    obtain ⟨aq_0, rfl, wq_0⟩ := part_int Try.underlying3 hq_0
    obtain ⟨yq_1, nq_1, gq_1⟩ := open_parts Try.underlying147 hf 1 _ rfl
    have hq_1 : DataW.trod enc Try.prog w base spare held nq_1 3 [c1] = some yq_1 := by simpa [show Try.prog.cellsOf 3 = 1 by kernel_rfl] using gq_1
    obtain ⟨aq_1, rfl, wq_1⟩ := part_int Try.underlying3 hq_1
    obtain ⟨yq_2, nq_2, gq_2⟩ := open_parts Try.underlying147 hf 2 _ rfl
    have hq_2 : DataW.trod enc Try.prog w base spare held nq_2 3 [c2] = some yq_2 := by simpa [show Try.prog.cellsOf 3 = 1 by kernel_rfl] using gq_2
    obtain ⟨aq_2, rfl, wq_2⟩ := part_int Try.underlying3 hq_2
    obtain ⟨yq_3, nq_3, gq_3⟩ := open_parts Try.underlying147 hf 3 _ rfl
    have hq_3 : DataW.trod enc Try.prog w base spare held nq_3 3 [c3] = some yq_3 := by simpa [show Try.prog.cellsOf 3 = 1 by kernel_rfl] using gq_3
    obtain ⟨aq_3, rfl, wq_3⟩ := part_int Try.underlying3 hq_3
    obtain ⟨yq_4, nq_4, gq_4⟩ := open_parts Try.underlying147 hf 4 _ rfl
    have hq_4 : DataW.trod enc Try.prog w base spare held nq_4 3 [c4] = some yq_4 := by simpa [show Try.prog.cellsOf 3 = 1 by kernel_rfl] using gq_4
    obtain ⟨aq_4, rfl, wq_4⟩ := part_int Try.underlying3 hq_4
    obtain ⟨yq_5, nq_5, gq_5⟩ := open_parts Try.underlying147 hf 5 _ rfl
    have hq_5 : DataW.trod enc Try.prog w base spare held nq_5 3 [c5] = some yq_5 := by simpa [show Try.prog.cellsOf 3 = 1 by kernel_rfl] using gq_5
    obtain ⟨aq_5, rfl, wq_5⟩ := part_int Try.underlying3 hq_5
    obtain ⟨yq_6, nq_6, gq_6⟩ := open_parts Try.underlying147 hf 6 _ rfl
    have hq_6 : DataW.trod enc Try.prog w base spare held nq_6 3 [c6] = some yq_6 := by simpa [show Try.prog.cellsOf 3 = 1 by kernel_rfl] using gq_6
    obtain ⟨aq_6, rfl, wq_6⟩ := part_int Try.underlying3 hq_6
    obtain ⟨yq_7, nq_7, gq_7⟩ := open_parts Try.underlying147 hf 7 _ rfl
    have hq_7 : DataW.trod enc Try.prog w base spare held nq_7 3 [c7] = some yq_7 := by simpa [show Try.prog.cellsOf 3 = 1 by kernel_rfl] using gq_7
    obtain ⟨aq_7, rfl, wq_7⟩ := part_int Try.underlying3 hq_7
    obtain ⟨yq_8, nq_8, gq_8⟩ := open_parts Try.underlying147 hf 8 _ rfl
    have hq_8 : DataW.trod enc Try.prog w base spare held nq_8 3 [c8] = some yq_8 := by simpa [show Try.prog.cellsOf 3 = 1 by kernel_rfl] using gq_8
    obtain ⟨aq_8, rfl, wq_8⟩ := part_int Try.underlying3 hq_8
    exact ⟨⟨aq_0, aq_1, aq_2, aq_3, aq_4, aq_5, aq_6, aq_7, aq_8⟩, elPV_val rfl (elPV_val rfl (elPV_val rfl (elPV_val rfl (elPV_val rfl (elPV_val rfl (elPV_val rfl (elPV_val rfl (elPV_val rfl (elPV_nil))))))))), ⟨i64_bd wq_0, i64_bd wq_1, i64_bd wq_2, i64_bd wq_3, i64_bd wq_4, i64_bd wq_5, i64_bd wq_6, i64_bd wq_7, i64_bd wq_8⟩⟩
theorem view {fuel : Nat} {c : Value} {x : DataW H × List MemPlace} (h : DataW.trod enc Try.prog w base spare held fuel 35 [c] = some x) : ∃ l : List RuleM, PR (Lt w) w (.view 9 (l.map RuleM.pv)) c ∧ c.oneCell' = true ∧ l.length ≤ maxLen ∧ ∀ e ∈ l, e.Wf :=
  open_view Try.underlying35 (by kernel_rfl) (by decide) (fun _ => rfl) (fun n cs y hf => el hf) h
end
end AvRule
end Go.Proofs.Ytfbnjemmmgobkaa
