/- A struct argument (Flow) opened to its fields. -/
import Derived.Test.YtfbnjemmmgobkaaOpen
import Derived.Test.YtfbnjemmmgobkaaPktMath
namespace Go.Proofs.Ytfbnjemmmgobkaa
open Go.Joins Go.ChangeShapes Go.WideShapes Go.RowKit Go.Deep
set_option linter.unusedVariables false
namespace OpFlow
section
variable {H : Type} {enc : TypeId × Value → H} {w : World} {base : Nat} {spare : Nat → Bool} {held : Bool}
theorem cells_int : Try.prog.cellsOf 3 = 1 := by kernel_rfl
theorem cells_all : Try.prog.cellsOf 105 = 5 := by kernel_rfl
set_option maxRecDepth 100000 in
theorem opened {r : Reach} {b0 : Nat} {v : Value} {d : DataW H} {p : List MemPlace} (hv : Value.okWide Try.prog w r b0 105 v) (h : DataW.Trod enc Try.prog w base spare held 105 v d p) :
    ∃ e : FlowM, v = e.val ∧ e.Wf := by
  obtain ⟨cs, rfl, hsz⟩ := okWide_struct Try.underlying105 hv
  obtain ⟨l⟩ := cs
  match l, hsz.trans cells_all with
  | [c0, c1, c2, c3, c4], _ =>
    obtain ⟨fuel, hf0⟩ := h
    have hf : DataW.trod enc Try.prog w base spare held fuel 105 [c0, c1, c2, c3, c4] = some _ := hf0
    obtain ⟨y0, n0, g0⟩ := open_parts Try.underlying105 hf 0 _ rfl
    have h0 : DataW.trod enc Try.prog w base spare held n0 3 [c0] = some y0 := by simpa [Value.cells, cells_int] using g0
    obtain ⟨a0, rfl, w0⟩ := part_int Try.underlying3 h0
    obtain ⟨y1, n1, g1⟩ := open_parts Try.underlying105 hf 1 _ rfl
    have h1 : DataW.trod enc Try.prog w base spare held n1 3 [c1] = some y1 := by simpa [Value.cells, cells_int] using g1
    obtain ⟨a1, rfl, w1⟩ := part_int Try.underlying3 h1
    obtain ⟨y2, n2, g2⟩ := open_parts Try.underlying105 hf 2 _ rfl
    have h2 : DataW.trod enc Try.prog w base spare held n2 3 [c2] = some y2 := by simpa [Value.cells, cells_int] using g2
    obtain ⟨a2, rfl, w2⟩ := part_int Try.underlying3 h2
    obtain ⟨y3, n3, g3⟩ := open_parts Try.underlying105 hf 3 _ rfl
    have h3 : DataW.trod enc Try.prog w base spare held n3 3 [c3] = some y3 := by simpa [Value.cells, cells_int] using g3
    obtain ⟨a3, rfl, w3⟩ := part_int Try.underlying3 h3
    obtain ⟨y4, n4, g4⟩ := open_parts Try.underlying105 hf 4 _ rfl
    have h4 : DataW.trod enc Try.prog w base spare held n4 3 [c4] = some y4 := by simpa [Value.cells, cells_int] using g4
    obtain ⟨a4, rfl, w4⟩ := part_int Try.underlying3 h4
    exact ⟨⟨a0, a1, a2, a3, a4⟩, rfl, ⟨i64_bd w0, i64_bd w1, i64_bd w2, i64_bd w3, i64_bd w4⟩⟩
end
end OpFlow
end Go.Proofs.Ytfbnjemmmgobkaa
