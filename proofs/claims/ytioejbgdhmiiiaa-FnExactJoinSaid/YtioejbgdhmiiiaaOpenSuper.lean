/- A struct argument (Super) opened to its fields. -/
import Derived.Test.YtioejbgdhmiiiaaOpen
import Derived.Test.YtioejbgdhmiiiaaSupMath
namespace Go.Proofs.Ytioejbgdhmiiiaa
open Go.Joins Go.ChangeShapes Go.WideShapes Go.RowKit Go.Deep
set_option linter.unusedVariables false
namespace OpSuper
section
variable {H : Type} {enc : TypeId × Value → H} {w : World} {base : Nat} {spare : Nat → Bool} {held : Bool}
theorem cells_Packet : Try.prog.cellsOf 36 = 16 := by kernel_rfl
theorem cells_Segment : Try.prog.cellsOf 34 = 8 := by kernel_rfl
theorem cells_int : Try.prog.cellsOf 3 = 1 := by kernel_rfl
theorem cells_string : Try.prog.cellsOf 9 = 1 := by kernel_rfl
theorem cells_all : Try.prog.cellsOf 38 = 18 := by kernel_rfl
set_option maxRecDepth 100000 in
theorem opened {r : Reach} {b0 : Nat} {v : Value} {d : DataW H} {p : List MemPlace} (hv : Value.okWide Try.prog w r b0 38 v) (h : DataW.Trod enc Try.prog w base spare held 38 v d p) :
    ∃ e : SupM, v = e.val ∧ e.Wf := by
  obtain ⟨cs, rfl, hsz⟩ := okWide_struct Try.underlying38 hv
  obtain ⟨l⟩ := cs
  match l, hsz.trans cells_all with
  | [c0, c1, c2, c3, c4, c5, c6, c7, c8, c9, c10, c11, c12, c13, c14, c15, c16, c17], _ =>
    obtain ⟨fuel, hf0⟩ := h
    have hf : DataW.trod enc Try.prog w base spare held fuel 38 [c0, c1, c2, c3, c4, c5, c6, c7, c8, c9, c10, c11, c12, c13, c14, c15, c16, c17] = some _ := hf0
    obtain ⟨y0, n0, g0⟩ := open_parts Try.underlying38 hf 0 _ rfl
    have h0 : DataW.trod enc Try.prog w base spare held n0 36 [c0, c1, c2, c3, c4, c5, c6, c7, c8, c9, c10, c11, c12, c13, c14, c15] = some y0 := by simpa [Value.cells, cells_Packet] using g0
    obtain ⟨y0_0, n0_0, g0_0⟩ := open_parts Try.underlying36 h0 0 _ rfl
    have h0_0 : DataW.trod enc Try.prog w base spare held n0_0 3 [c0] = some y0_0 := by simpa [Value.cells, cells_int] using g0_0
    obtain ⟨a0, rfl, w0⟩ := part_int Try.underlying3 h0_0
    obtain ⟨y0_1, n0_1, g0_1⟩ := open_parts Try.underlying36 h0 1 _ rfl
    have h0_1 : DataW.trod enc Try.prog w base spare held n0_1 3 [c1] = some y0_1 := by simpa [Value.cells, cells_int] using g0_1
    obtain ⟨a1, rfl, w1⟩ := part_int Try.underlying3 h0_1
    obtain ⟨y0_2, n0_2, g0_2⟩ := open_parts Try.underlying36 h0 2 _ rfl
    have h0_2 : DataW.trod enc Try.prog w base spare held n0_2 3 [c2] = some y0_2 := by simpa [Value.cells, cells_int] using g0_2
    obtain ⟨a2, rfl, w2⟩ := part_int Try.underlying3 h0_2
    obtain ⟨y0_3, n0_3, g0_3⟩ := open_parts Try.underlying36 h0 3 _ rfl
    have h0_3 : DataW.trod enc Try.prog w base spare held n0_3 3 [c3] = some y0_3 := by simpa [Value.cells, cells_int] using g0_3
    obtain ⟨a3, rfl, w3⟩ := part_int Try.underlying3 h0_3
    obtain ⟨y0_4, n0_4, g0_4⟩ := open_parts Try.underlying36 h0 4 _ rfl
    have h0_4 : DataW.trod enc Try.prog w base spare held n0_4 3 [c4] = some y0_4 := by simpa [Value.cells, cells_int] using g0_4
    obtain ⟨a4, rfl, w4⟩ := part_int Try.underlying3 h0_4
    obtain ⟨y0_5, n0_5, g0_5⟩ := open_parts Try.underlying36 h0 5 _ rfl
    have h0_5 : DataW.trod enc Try.prog w base spare held n0_5 3 [c5] = some y0_5 := by simpa [Value.cells, cells_int] using g0_5
    obtain ⟨a5, rfl, w5⟩ := part_int Try.underlying3 h0_5
    obtain ⟨y0_6, n0_6, g0_6⟩ := open_parts Try.underlying36 h0 6 _ rfl
    have h0_6 : DataW.trod enc Try.prog w base spare held n0_6 3 [c6] = some y0_6 := by simpa [Value.cells, cells_int] using g0_6
    obtain ⟨a6, rfl, w6⟩ := part_int Try.underlying3 h0_6
    obtain ⟨y0_7, n0_7, g0_7⟩ := open_parts Try.underlying36 h0 7 _ rfl
    have h0_7 : DataW.trod enc Try.prog w base spare held n0_7 3 [c7] = some y0_7 := by simpa [Value.cells, cells_int] using g0_7
    obtain ⟨a7, rfl, w7⟩ := part_int Try.underlying3 h0_7
    obtain ⟨y0_8, n0_8, g0_8⟩ := open_parts Try.underlying36 h0 8 _ rfl
    have h0_8 : DataW.trod enc Try.prog w base spare held n0_8 34 [c8, c9, c10, c11, c12, c13, c14, c15] = some y0_8 := by simpa [Value.cells, cells_Segment] using g0_8
    obtain ⟨y0_8_0, n0_8_0, g0_8_0⟩ := open_parts Try.underlying34 h0_8 0 _ rfl
    have h0_8_0 : DataW.trod enc Try.prog w base spare held n0_8_0 3 [c8] = some y0_8_0 := by simpa [Value.cells, cells_int] using g0_8_0
    obtain ⟨a8, rfl, w8⟩ := part_int Try.underlying3 h0_8_0
    obtain ⟨y0_8_1, n0_8_1, g0_8_1⟩ := open_parts Try.underlying34 h0_8 1 _ rfl
    have h0_8_1 : DataW.trod enc Try.prog w base spare held n0_8_1 3 [c9] = some y0_8_1 := by simpa [Value.cells, cells_int] using g0_8_1
    obtain ⟨a9, rfl, w9⟩ := part_int Try.underlying3 h0_8_1
    obtain ⟨y0_8_2, n0_8_2, g0_8_2⟩ := open_parts Try.underlying34 h0_8 2 _ rfl
    have h0_8_2 : DataW.trod enc Try.prog w base spare held n0_8_2 3 [c10] = some y0_8_2 := by simpa [Value.cells, cells_int] using g0_8_2
    obtain ⟨a10, rfl, w10⟩ := part_int Try.underlying3 h0_8_2
    obtain ⟨y0_8_3, n0_8_3, g0_8_3⟩ := open_parts Try.underlying34 h0_8 3 _ rfl
    have h0_8_3 : DataW.trod enc Try.prog w base spare held n0_8_3 3 [c11] = some y0_8_3 := by simpa [Value.cells, cells_int] using g0_8_3
    obtain ⟨a11, rfl, w11⟩ := part_int Try.underlying3 h0_8_3
    obtain ⟨y0_8_4, n0_8_4, g0_8_4⟩ := open_parts Try.underlying34 h0_8 4 _ rfl
    have h0_8_4 : DataW.trod enc Try.prog w base spare held n0_8_4 3 [c12] = some y0_8_4 := by simpa [Value.cells, cells_int] using g0_8_4
    obtain ⟨a12, rfl, w12⟩ := part_int Try.underlying3 h0_8_4
    obtain ⟨y0_8_5, n0_8_5, g0_8_5⟩ := open_parts Try.underlying34 h0_8 5 _ rfl
    have h0_8_5 : DataW.trod enc Try.prog w base spare held n0_8_5 3 [c13] = some y0_8_5 := by simpa [Value.cells, cells_int] using g0_8_5
    obtain ⟨a13, rfl, w13⟩ := part_int Try.underlying3 h0_8_5
    obtain ⟨y0_8_6, n0_8_6, g0_8_6⟩ := open_parts Try.underlying34 h0_8 6 _ rfl
    have h0_8_6 : DataW.trod enc Try.prog w base spare held n0_8_6 3 [c14] = some y0_8_6 := by simpa [Value.cells, cells_int] using g0_8_6
    obtain ⟨a14, rfl, w14⟩ := part_int Try.underlying3 h0_8_6
    obtain ⟨y0_8_7, n0_8_7, g0_8_7⟩ := open_parts Try.underlying34 h0_8 7 _ rfl
    have h0_8_7 : DataW.trod enc Try.prog w base spare held n0_8_7 9 [c15] = some y0_8_7 := by simpa [Value.cells, cells_string] using g0_8_7
    obtain ⟨a15, rfl, w15⟩ := part_string Try.underlying9 h0_8_7
    obtain ⟨y1, n1, g1⟩ := open_parts Try.underlying38 hf 1 _ rfl
    have h1 : DataW.trod enc Try.prog w base spare held n1 3 [c16] = some y1 := by simpa [Value.cells, cells_int] using g1
    obtain ⟨a16, rfl, w16⟩ := part_int Try.underlying3 h1
    obtain ⟨y2, n2, g2⟩ := open_parts Try.underlying38 hf 2 _ rfl
    have h2 : DataW.trod enc Try.prog w base spare held n2 3 [c17] = some y2 := by simpa [Value.cells, cells_int] using g2
    obtain ⟨a17, rfl, w17⟩ := part_int Try.underlying3 h2
    exact ⟨⟨⟨a0, a1, a2, a3, a4, a5, a6, a7, ⟨a8, a9, a10, a11, a12, a13, a14, a15⟩⟩, a16, a17⟩, rfl, ⟨⟨i64_bd w0, i64_bd w1, i64_bd w2, i64_bd w3, i64_bd w4, i64_bd w5, i64_bd w6, i64_bd w7, ⟨i64_bd w8, i64_bd w9, i64_bd w10, i64_bd w11, i64_bd w12, i64_bd w13, i64_bd w14, w15⟩⟩, i64_bd w16, i64_bd w17⟩⟩
end
end OpSuper
end Go.Proofs.Ytioejbgdhmiiiaa
