/- Rows of Stream that came in. -/
import Derived.Test.YtbidaccdjnbhfaaAMOpen
import Derived.Test.YtbidaccdjnbhfaaAMRowStream
namespace Go.Proofs.Ytbidaccdjnbhfaa
open AM Go.Joins Go.ChangeShapes Go.WideShapes Go.RowKit Go.Deep
set_option linter.unusedVariables false
set_option linter.unusedSimpArgs false
namespace AvStream
section
variable {H : Type} {enc : TypeId × Value → H} {w : World} {base : Nat} {spare : Nat → Bool} {held : Bool}

set_option maxRecDepth 100000 in
theorem el {n0 : Nat} {cs : List Value} {x : DataW H × List MemPlace} (hf : DataW.trod enc Try.prog w base spare held n0 96 cs = some x) : ∃ e : StreamM, ElPV w cs e.pv ∧ e.Wf := by
  obtain ⟨_, _, _, _, hlen, _, _⟩ := DataW.trod_struct Try.underlying96 hf
  rw [show Try.prog.cellsOf 96 = 8 by kernel_rfl] at hlen
  match cs, hlen with
  | [c0, c1, c2, c3, c4, c5, c6, c7], _ =>
    obtain ⟨yq_0, nq_0, gq_0⟩ := open_parts Try.underlying96 hf 0 _ rfl
    have hq_0 : DataW.trod enc Try.prog w base spare held nq_0 57 [c0, c1, c2, c3, c4] = some yq_0 := by simpa [show Try.prog.cellsOf 57 = 5 by kernel_rfl] using gq_0
    obtain ⟨yq_0_0, nq_0_0, gq_0_0⟩ := open_parts Try.underlying57 hq_0 0 _ rfl
    have hq_0_0 : DataW.trod enc Try.prog w base spare held nq_0_0 3 [c0] = some yq_0_0 := by simpa [show Try.prog.cellsOf 3 = 1 by kernel_rfl] using gq_0_0
    obtain ⟨aq_0_0, rfl, wq_0_0⟩ := part_int Try.underlying3 hq_0_0
    obtain ⟨yq_0_1, nq_0_1, gq_0_1⟩ := open_parts Try.underlying57 hq_0 1 _ rfl
    have hq_0_1 : DataW.trod enc Try.prog w base spare held nq_0_1 3 [c1] = some yq_0_1 := by simpa [show Try.prog.cellsOf 3 = 1 by kernel_rfl] using gq_0_1
    obtain ⟨aq_0_1, rfl, wq_0_1⟩ := part_int Try.underlying3 hq_0_1
    obtain ⟨yq_0_2, nq_0_2, gq_0_2⟩ := open_parts Try.underlying57 hq_0 2 _ rfl
    have hq_0_2 : DataW.trod enc Try.prog w base spare held nq_0_2 3 [c2] = some yq_0_2 := by simpa [show Try.prog.cellsOf 3 = 1 by kernel_rfl] using gq_0_2
    obtain ⟨aq_0_2, rfl, wq_0_2⟩ := part_int Try.underlying3 hq_0_2
    obtain ⟨yq_0_3, nq_0_3, gq_0_3⟩ := open_parts Try.underlying57 hq_0 3 _ rfl
    have hq_0_3 : DataW.trod enc Try.prog w base spare held nq_0_3 3 [c3] = some yq_0_3 := by simpa [show Try.prog.cellsOf 3 = 1 by kernel_rfl] using gq_0_3
    obtain ⟨aq_0_3, rfl, wq_0_3⟩ := part_int Try.underlying3 hq_0_3
    obtain ⟨yq_0_4, nq_0_4, gq_0_4⟩ := open_parts Try.underlying57 hq_0 4 _ rfl
    have hq_0_4 : DataW.trod enc Try.prog w base spare held nq_0_4 3 [c4] = some yq_0_4 := by simpa [show Try.prog.cellsOf 3 = 1 by kernel_rfl] using gq_0_4
    obtain ⟨aq_0_4, rfl, wq_0_4⟩ := part_int Try.underlying3 hq_0_4
    obtain ⟨yq_1, nq_1, gq_1⟩ := open_parts Try.underlying96 hf 1 _ rfl
    have hq_1 : DataW.trod enc Try.prog w base spare held nq_1 3 [c5] = some yq_1 := by simpa [show Try.prog.cellsOf 3 = 1 by kernel_rfl] using gq_1
    obtain ⟨aq_1, rfl, wq_1⟩ := part_int Try.underlying3 hq_1
    obtain ⟨yq_2, nq_2, gq_2⟩ := open_parts Try.underlying96 hf 2 _ rfl
    have hq_2 : DataW.trod enc Try.prog w base spare held nq_2 9 [c6] = some yq_2 := by simpa [show Try.prog.cellsOf 9 = 1 by kernel_rfl] using gq_2
    obtain ⟨aq_2, rfl, wq_2⟩ := part_string Try.underlying9 hq_2
    obtain ⟨yq_3, nq_3, gq_3⟩ := open_parts Try.underlying96 hf 3 _ rfl
    have hq_3 : DataW.trod enc Try.prog w base spare held nq_3 4 [c7] = some yq_3 := by simpa [show Try.prog.cellsOf 4 = 1 by kernel_rfl] using gq_3
    obtain ⟨aq_3, rfl⟩ := part_bool Try.underlying4 hq_3
    exact ⟨⟨⟨aq_0_0, aq_0_1, aq_0_2, aq_0_3, aq_0_4⟩, aq_1, aq_2, aq_3⟩, elPV_val rfl (elPV_val rfl (elPV_val rfl (elPV_val rfl (elPV_val rfl (elPV_val rfl (elPV_val rfl (elPV_val rfl (elPV_nil)))))))), ⟨i64_bd wq_0_0, i64_bd wq_0_1, i64_bd wq_0_2, i64_bd wq_0_3, i64_bd wq_0_4, i64_bd wq_1, wq_2⟩⟩
theorem view {fuel : Nat} {c : Value} {x : DataW H × List MemPlace} (h : DataW.trod enc Try.prog w base spare held fuel 55 [c] = some x) : ∃ l : List StreamM, PR (Lt w) w (.view 8 (l.map StreamM.pv)) c ∧ c.oneCell' = true ∧ l.length ≤ maxLen ∧ ∀ e ∈ l, e.Wf :=
  open_view Try.underlying55 (by kernel_rfl) (by decide) (fun _ => rfl) (fun n cs y hf => el hf) h
end
end AvStream
end Go.Proofs.Ytbidaccdjnbhfaa
