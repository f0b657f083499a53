/- Rows of Super that came in. -/
import Derived.Test.YtbidaccdjnbhfaaAMOpen
import Derived.Test.YtbidaccdjnbhfaaAMRowSuper
namespace Go.Proofs.Ytbidaccdjnbhfaa
open AM Go.Joins Go.ChangeShapes Go.WideShapes Go.RowKit Go.Deep
set_option linter.unusedVariables false
set_option linter.unusedSimpArgs false
namespace AvSuper
section
variable {H : Type} {enc : TypeId × Value → H} {w : World} {base : Nat} {spare : Nat → Bool} {held : Bool}

set_option maxRecDepth 100000 in
theorem el {n0 : Nat} {cs : List Value} {x : DataW H × List MemPlace} (hf : DataW.trod enc Try.prog w base spare held n0 92 cs = some x) : ∃ e : SupM, ElPV w cs e.pv ∧ e.Wf := by
  obtain ⟨_, _, _, _, hlen, _, _⟩ := DataW.trod_struct Try.underlying92 hf
  rw [show Try.prog.cellsOf 92 = 18 by kernel_rfl] at hlen
  match cs, hlen with
  | [c0, c1, c2, c3, c4, c5, c6, c7, c8, c9, c10, c11, c12, c13, c14, c15, c16, c17], _ =>
    obtain ⟨yq_0, nq_0, gq_0⟩ := open_parts Try.underlying92 hf 0 _ rfl
    have hq_0 : DataW.trod enc Try.prog w base spare held nq_0 36 [c0, c1, c2, c3, c4, c5, c6, c7, c8, c9, c10, c11, c12, c13, c14, c15] = some yq_0 := by simpa [show Try.prog.cellsOf 36 = 16 by kernel_rfl] using gq_0
    obtain ⟨yq_0_0, nq_0_0, gq_0_0⟩ := open_parts Try.underlying36 hq_0 0 _ rfl
    have hq_0_0 : DataW.trod enc Try.prog w base spare held nq_0_0 3 [c0] = some yq_0_0 := by simpa [show Try.prog.cellsOf 3 = 1 by kernel_rfl] using gq_0_0
    obtain ⟨aq_0_0, rfl, wq_0_0⟩ := part_int Try.underlying3 hq_0_0
    obtain ⟨yq_0_1, nq_0_1, gq_0_1⟩ := open_parts Try.underlying36 hq_0 1 _ rfl
    have hq_0_1 : DataW.trod enc Try.prog w base spare held nq_0_1 3 [c1] = some yq_0_1 := by simpa [show Try.prog.cellsOf 3 = 1 by kernel_rfl] using gq_0_1
    obtain ⟨aq_0_1, rfl, wq_0_1⟩ := part_int Try.underlying3 hq_0_1
    obtain ⟨yq_0_2, nq_0_2, gq_0_2⟩ := open_parts Try.underlying36 hq_0 2 _ rfl
    have hq_0_2 : DataW.trod enc Try.prog w base spare held nq_0_2 3 [c2] = some yq_0_2 := by simpa [show Try.prog.cellsOf 3 = 1 by kernel_rfl] using gq_0_2
    obtain ⟨aq_0_2, rfl, wq_0_2⟩ := part_int Try.underlying3 hq_0_2
    obtain ⟨yq_0_3, nq_0_3, gq_0_3⟩ := open_parts Try.underlying36 hq_0 3 _ rfl
    have hq_0_3 : DataW.trod enc Try.prog w base spare held nq_0_3 3 [c3] = some yq_0_3 := by simpa [show Try.prog.cellsOf 3 = 1 by kernel_rfl] using gq_0_3
    obtain ⟨aq_0_3, rfl, wq_0_3⟩ := part_int Try.underlying3 hq_0_3
    obtain ⟨yq_0_4, nq_0_4, gq_0_4⟩ := open_parts Try.underlying36 hq_0 4 _ rfl
    have hq_0_4 : DataW.trod enc Try.prog w base spare held nq_0_4 3 [c4] = some yq_0_4 := by simpa [show Try.prog.cellsOf 3 = 1 by kernel_rfl] using gq_0_4
    obtain ⟨aq_0_4, rfl, wq_0_4⟩ := part_int Try.underlying3 hq_0_4
    obtain ⟨yq_0_5, nq_0_5, gq_0_5⟩ := open_parts Try.underlying36 hq_0 5 _ rfl
    have hq_0_5 : DataW.trod enc Try.prog w base spare held nq_0_5 3 [c5] = some yq_0_5 := by simpa [show Try.prog.cellsOf 3 = 1 by kernel_rfl] using gq_0_5
    obtain ⟨aq_0_5, rfl, wq_0_5⟩ := part_int Try.underlying3 hq_0_5
    obtain ⟨yq_0_6, nq_0_6, gq_0_6⟩ := open_parts Try.underlying36 hq_0 6 _ rfl
    have hq_0_6 : DataW.trod enc Try.prog w base spare held nq_0_6 3 [c6] = some yq_0_6 := by simpa [show Try.prog.cellsOf 3 = 1 by kernel_rfl] using gq_0_6
    obtain ⟨aq_0_6, rfl, wq_0_6⟩ := part_int Try.underlying3 hq_0_6
    obtain ⟨yq_0_7, nq_0_7, gq_0_7⟩ := open_parts Try.underlying36 hq_0 7 _ rfl
    have hq_0_7 : DataW.trod enc Try.prog w base spare held nq_0_7 3 [c7] = some yq_0_7 := by simpa [show Try.prog.cellsOf 3 = 1 by kernel_rfl] using gq_0_7
    obtain ⟨aq_0_7, rfl, wq_0_7⟩ := part_int Try.underlying3 hq_0_7
    obtain ⟨yq_0_8, nq_0_8, gq_0_8⟩ := open_parts Try.underlying36 hq_0 8 _ rfl
    have hq_0_8 : DataW.trod enc Try.prog w base spare held nq_0_8 34 [c8, c9, c10, c11, c12, c13, c14, c15] = some yq_0_8 := by simpa [show Try.prog.cellsOf 34 = 8 by kernel_rfl] using gq_0_8
    obtain ⟨yq_0_8_0, nq_0_8_0, gq_0_8_0⟩ := open_parts Try.underlying34 hq_0_8 0 _ rfl
    have hq_0_8_0 : DataW.trod enc Try.prog w base spare held nq_0_8_0 3 [c8] = some yq_0_8_0 := by simpa [show Try.prog.cellsOf 3 = 1 by kernel_rfl] using gq_0_8_0
    obtain ⟨aq_0_8_0, rfl, wq_0_8_0⟩ := part_int Try.underlying3 hq_0_8_0
    obtain ⟨yq_0_8_1, nq_0_8_1, gq_0_8_1⟩ := open_parts Try.underlying34 hq_0_8 1 _ rfl
    have hq_0_8_1 : DataW.trod enc Try.prog w base spare held nq_0_8_1 3 [c9] = some yq_0_8_1 := by simpa [show Try.prog.cellsOf 3 = 1 by kernel_rfl] using gq_0_8_1
    obtain ⟨aq_0_8_1, rfl, wq_0_8_1⟩ := part_int Try.underlying3 hq_0_8_1
    obtain ⟨yq_0_8_2, nq_0_8_2, gq_0_8_2⟩ := open_parts Try.underlying34 hq_0_8 2 _ rfl
    have hq_0_8_2 : DataW.trod enc Try.prog w base spare held nq_0_8_2 3 [c10] = some yq_0_8_2 := by simpa [show Try.prog.cellsOf 3 = 1 by kernel_rfl] using gq_0_8_2
    obtain ⟨aq_0_8_2, rfl, wq_0_8_2⟩ := part_int Try.underlying3 hq_0_8_2
    obtain ⟨yq_0_8_3, nq_0_8_3, gq_0_8_3⟩ := open_parts Try.underlying34 hq_0_8 3 _ rfl
    have hq_0_8_3 : DataW.trod enc Try.prog w base spare held nq_0_8_3 3 [c11] = some yq_0_8_3 := by simpa [show Try.prog.cellsOf 3 = 1 by kernel_rfl] using gq_0_8_3
    obtain ⟨aq_0_8_3, rfl, wq_0_8_3⟩ := part_int Try.underlying3 hq_0_8_3
    obtain ⟨yq_0_8_4, nq_0_8_4, gq_0_8_4⟩ := open_parts Try.underlying34 hq_0_8 4 _ rfl
    have hq_0_8_4 : DataW.trod enc Try.prog w base spare held nq_0_8_4 3 [c12] = some yq_0_8_4 := by simpa [show Try.prog.cellsOf 3 = 1 by kernel_rfl] using gq_0_8_4
    obtain ⟨aq_0_8_4, rfl, wq_0_8_4⟩ := part_int Try.underlying3 hq_0_8_4
    obtain ⟨yq_0_8_5, nq_0_8_5, gq_0_8_5⟩ := open_parts Try.underlying34 hq_0_8 5 _ rfl
    have hq_0_8_5 : DataW.trod enc Try.prog w base spare held nq_0_8_5 3 [c13] = some yq_0_8_5 := by simpa [show Try.prog.cellsOf 3 = 1 by kernel_rfl] using gq_0_8_5
    obtain ⟨aq_0_8_5, rfl, wq_0_8_5⟩ := part_int Try.underlying3 hq_0_8_5
    obtain ⟨yq_0_8_6, nq_0_8_6, gq_0_8_6⟩ := open_parts Try.underlying34 hq_0_8 6 _ rfl
    have hq_0_8_6 : DataW.trod enc Try.prog w base spare held nq_0_8_6 3 [c14] = some yq_0_8_6 := by simpa [show Try.prog.cellsOf 3 = 1 by kernel_rfl] using gq_0_8_6
    obtain ⟨aq_0_8_6, rfl, wq_0_8_6⟩ := part_int Try.underlying3 hq_0_8_6
    obtain ⟨yq_0_8_7, nq_0_8_7, gq_0_8_7⟩ := open_parts Try.underlying34 hq_0_8 7 _ rfl
    have hq_0_8_7 : DataW.trod enc Try.prog w base spare held nq_0_8_7 9 [c15] = some yq_0_8_7 := by simpa [show Try.prog.cellsOf 9 = 1 by kernel_rfl] using gq_0_8_7
    obtain ⟨aq_0_8_7, rfl, wq_0_8_7⟩ := part_string Try.underlying9 hq_0_8_7
    obtain ⟨yq_1, nq_1, gq_1⟩ := open_parts Try.underlying92 hf 1 _ rfl
    have hq_1 : DataW.trod enc Try.prog w base spare held nq_1 3 [c16] = some yq_1 := by simpa [show Try.prog.cellsOf 3 = 1 by kernel_rfl] using gq_1
    obtain ⟨aq_1, rfl, wq_1⟩ := part_int Try.underlying3 hq_1
    obtain ⟨yq_2, nq_2, gq_2⟩ := open_parts Try.underlying92 hf 2 _ rfl
    have hq_2 : DataW.trod enc Try.prog w base spare held nq_2 3 [c17] = some yq_2 := by simpa [show Try.prog.cellsOf 3 = 1 by kernel_rfl] using gq_2
    obtain ⟨aq_2, rfl, wq_2⟩ := part_int Try.underlying3 hq_2
    exact ⟨⟨⟨aq_0_0, aq_0_1, aq_0_2, aq_0_3, aq_0_4, aq_0_5, aq_0_6, aq_0_7, ⟨aq_0_8_0, aq_0_8_1, aq_0_8_2, aq_0_8_3, aq_0_8_4, aq_0_8_5, aq_0_8_6, aq_0_8_7⟩⟩, aq_1, aq_2⟩, elPV_val rfl (elPV_val rfl (elPV_val rfl (elPV_val rfl (elPV_val rfl (elPV_val rfl (elPV_val rfl (elPV_val rfl (elPV_val rfl (elPV_val rfl (elPV_val rfl (elPV_val rfl (elPV_val rfl (elPV_val rfl (elPV_val rfl (elPV_val rfl (elPV_val rfl (elPV_val rfl (elPV_nil)))))))))))))))))), ⟨⟨i64_bd wq_0_0, i64_bd wq_0_1, i64_bd wq_0_2, i64_bd wq_0_3, i64_bd wq_0_4, i64_bd wq_0_5, i64_bd wq_0_6, i64_bd wq_0_7, ⟨i64_bd wq_0_8_0, i64_bd wq_0_8_1, i64_bd wq_0_8_2, i64_bd wq_0_8_3, i64_bd wq_0_8_4, i64_bd wq_0_8_5, i64_bd wq_0_8_6, wq_0_8_7⟩⟩, i64_bd wq_1, i64_bd wq_2⟩⟩
theorem view {fuel : Nat} {c : Value} {x : DataW H × List MemPlace} (h : DataW.trod enc Try.prog w base spare held fuel 50 [c] = some x) : ∃ l : List SupM, PR (Lt w) w (.view 18 (l.map SupM.pv)) c ∧ c.oneCell' = true ∧ l.length ≤ maxLen ∧ ∀ e ∈ l, e.Wf :=
  open_view Try.underlying50 (by kernel_rfl) (by decide) (fun _ => rfl) (fun n cs y hf => el hf) h
end
end AvSuper
end Go.Proofs.Ytbidaccdjnbhfaa
