/- A struct argument (Packet) opened to its fields. -/
import Derived.Test.YtbidaccdjnbhfaaOpen
import Derived.Test.YtbidaccdjnbhfaaPktMath
namespace Go.Proofs.Ytbidaccdjnbhfaa
open Go.Joins Go.ChangeShapes Go.WideShapes Go.RowKit Go.Deep
set_option linter.unusedVariables false
namespace OpPacket
section
variable {H : Type} {enc : TypeId × Value → H} {w : World} {base : Nat} {spare : Nat → Bool} {held : Bool}
theorem cells_Segment : Try.prog.cellsOf 34 = 8 := by kernel_rfl
theorem cells_int : Try.prog.cellsOf 3 = 1 := by kernel_rfl
theorem cells_string : Try.prog.cellsOf 9 = 1 := by kernel_rfl
theorem cells_all : Try.prog.cellsOf 36 = 16 := by kernel_rfl
set_option maxRecDepth 100000 in
theorem opened {r : Reach} {b0 : Nat} {v : Value} {d : DataW H} {p : List MemPlace} (hv : Value.okWide Try.prog w r b0 36 v) (h : DataW.Trod enc Try.prog w base spare held 36 v d p) :
    ∃ e : PktM, v = e.val ∧ e.Wf := by
  obtain ⟨cs, rfl, hsz⟩ := okWide_struct Try.underlying36 hv
  obtain ⟨l⟩ := cs
  match l, hsz.trans cells_all with
  | [c0, c1, c2, c3, c4, c5, c6, c7, c8, c9, c10, c11, c12, c13, c14, c15], _ =>
    obtain ⟨fuel, hf0⟩ := h
    have hf : DataW.trod enc Try.prog w base spare held fuel 36 [c0, c1, c2, c3, c4, c5, c6, c7, c8, c9, c10, c11, c12, c13, c14, c15] = some _ := hf0
    obtain ⟨y0, n0, g0⟩ := open_parts Try.underlying36 hf 0 _ rfl
    have h0 : DataW.trod enc Try.prog w base spare held n0 3 [c0] = some y0 := by simpa [Value.cells, cells_int] using g0
    obtain ⟨a0, rfl, w0⟩ := part_int Try.underlying3 h0
    obtain ⟨y1, n1, g1⟩ := open_parts Try.underlying36 hf 1 _ rfl
    have h1 : DataW.trod enc Try.prog w base spare held n1 3 [c1] = some y1 := by simpa [Value.cells, cells_int] using g1
    obtain ⟨a1, rfl, w1⟩ := part_int Try.underlying3 h1
    obtain ⟨y2, n2, g2⟩ := open_parts Try.underlying36 hf 2 _ rfl
    have h2 : DataW.trod enc Try.prog w base spare held n2 3 [c2] = some y2 := by simpa [Value.cells, cells_int] using g2
    obtain ⟨a2, rfl, w2⟩ := part_int Try.underlying3 h2
    obtain ⟨y3, n3, g3⟩ := open_parts Try.underlying36 hf 3 _ rfl
    have h3 : DataW.trod enc Try.prog w base spare held n3 3 [c3] = some y3 := by simpa [Value.cells, cells_int] using g3
    obtain ⟨a3, rfl, w3⟩ := part_int Try.underlying3 h3
    obtain ⟨y4, n4, g4⟩ := open_parts Try.underlying36 hf 4 _ rfl
    have h4 : DataW.trod enc Try.prog w base spare held n4 3 [c4] = some y4 := by simpa [Value.cells, cells_int] using g4
    obtain ⟨a4, rfl, w4⟩ := part_int Try.underlying3 h4
    obtain ⟨y5, n5, g5⟩ := open_parts Try.underlying36 hf 5 _ rfl
    have h5 : DataW.trod enc Try.prog w base spare held n5 3 [c5] = some y5 := by simpa [Value.cells, cells_int] using g5
    obtain ⟨a5, rfl, w5⟩ := part_int Try.underlying3 h5
    obtain ⟨y6, n6, g6⟩ := open_parts Try.underlying36 hf 6 _ rfl
    have h6 : DataW.trod enc Try.prog w base spare held n6 3 [c6] = some y6 := by simpa [Value.cells, cells_int] using g6
    obtain ⟨a6, rfl, w6⟩ := part_int Try.underlying3 h6
    obtain ⟨y7, n7, g7⟩ := open_parts Try.underlying36 hf 7 _ rfl
    have h7 : DataW.trod enc Try.prog w base spare held n7 3 [c7] = some y7 := by simpa [Value.cells, cells_int] using g7
    obtain ⟨a7, rfl, w7⟩ := part_int Try.underlying3 h7
    obtain ⟨y8, n8, g8⟩ := open_parts Try.underlying36 hf 8 _ rfl
    have h8 : DataW.trod enc Try.prog w base spare held n8 34 [c8, c9, c10, c11, c12, c13, c14, c15] = some y8 := by simpa [Value.cells, cells_Segment] using g8
    obtain ⟨y8_0, n8_0, g8_0⟩ := open_parts Try.underlying34 h8 0 _ rfl
    have h8_0 : DataW.trod enc Try.prog w base spare held n8_0 3 [c8] = some y8_0 := by simpa [Value.cells, cells_int] using g8_0
    obtain ⟨a8, rfl, w8⟩ := part_int Try.underlying3 h8_0
    obtain ⟨y8_1, n8_1, g8_1⟩ := open_parts Try.underlying34 h8 1 _ rfl
    have h8_1 : DataW.trod enc Try.prog w base spare held n8_1 3 [c9] = some y8_1 := by simpa [Value.cells, cells_int] using g8_1
    obtain ⟨a9, rfl, w9⟩ := part_int Try.underlying3 h8_1
    obtain ⟨y8_2, n8_2, g8_2⟩ := open_parts Try.underlying34 h8 2 _ rfl
    have h8_2 : DataW.trod enc Try.prog w base spare held n8_2 3 [c10] = some y8_2 := by simpa [Value.cells, cells_int] using g8_2
    obtain ⟨a10, rfl, w10⟩ := part_int Try.underlying3 h8_2
    obtain ⟨y8_3, n8_3, g8_3⟩ := open_parts Try.underlying34 h8 3 _ rfl
    have h8_3 : DataW.trod enc Try.prog w base spare held n8_3 3 [c11] = some y8_3 := by simpa [Value.cells, cells_int] using g8_3
    obtain ⟨a11, rfl, w11⟩ := part_int Try.underlying3 h8_3
    obtain ⟨y8_4, n8_4, g8_4⟩ := open_parts Try.underlying34 h8 4 _ rfl
    have h8_4 : DataW.trod enc Try.prog w base spare held n8_4 3 [c12] = some y8_4 := by simpa [Value.cells, cells_int] using g8_4
    obtain ⟨a12, rfl, w12⟩ := part_int Try.underlying3 h8_4
    obtain ⟨y8_5, n8_5, g8_5⟩ := open_parts Try.underlying34 h8 5 _ rfl
    have h8_5 : DataW.trod enc Try.prog w base spare held n8_5 3 [c13] = some y8_5 := by simpa [Value.cells, cells_int] using g8_5
    obtain ⟨a13, rfl, w13⟩ := part_int Try.underlying3 h8_5
    obtain ⟨y8_6, n8_6, g8_6⟩ := open_parts Try.underlying34 h8 6 _ rfl
    have h8_6 : DataW.trod enc Try.prog w base spare held n8_6 3 [c14] = some y8_6 := by simpa [Value.cells, cells_int] using g8_6
    obtain ⟨a14, rfl, w14⟩ := part_int Try.underlying3 h8_6
    obtain ⟨y8_7, n8_7, g8_7⟩ := open_parts Try.underlying34 h8 7 _ rfl
    have h8_7 : DataW.trod enc Try.prog w base spare held n8_7 9 [c15] = some y8_7 := by simpa [Value.cells, cells_string] using g8_7
    obtain ⟨a15, rfl, w15⟩ := part_string Try.underlying9 h8_7
    exact ⟨⟨a0, a1, a2, a3, a4, a5, a6, a7, ⟨a8, a9, a10, a11, a12, a13, a14, a15⟩⟩, rfl, ⟨i64_bd w0, i64_bd w1, i64_bd w2, i64_bd w3, i64_bd w4, i64_bd w5, i64_bd w6, i64_bd w7, ⟨i64_bd w8, i64_bd w9, i64_bd w10, i64_bd w11, i64_bd w12, i64_bd w13, i64_bd w14, w15⟩⟩⟩
end
end OpPacket
end Go.Proofs.Ytbidaccdjnbhfaa
