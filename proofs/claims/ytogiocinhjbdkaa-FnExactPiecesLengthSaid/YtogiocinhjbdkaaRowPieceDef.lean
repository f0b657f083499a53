/- Rows of Piece: cells, marks. -/
import Derived.Test.YtogiocinhjbdkaaRows2
import Derived.Test.YtogiocinhjbdkaaNestMath
namespace Go.Proofs.Ytogiocinhjbdkaa
open Go.RowKit
set_option linter.unusedSimpArgs false
set_option linter.unusedVariables false

def PieceM.arr (e : PieceM) : Array Value := #[.int .i64 e.xAt, .int .i64 e.xLen]
theorem PieceM.val_arr (e : PieceM) : e.val = .agg e.arr := rfl
theorem PieceM.arr_size (e : PieceM) : e.arr.size = 2 := rfl
/-- The marks from number q on. -/
def PieceM.mkd (q : Nat) : PieceM := ⟨(q : Int), (q : Int) + 1⟩
def PieceM.marks (q n : Nat) : List PieceM := (List.range n).map fun i => PieceM.mkd (q + i * 2)
theorem PieceM.marks_length (q n : Nat) : (PieceM.marks q n).length = n := by simp [PieceM.marks]
theorem PieceM.marks_at (q n i : Nat) (h : i < n) : (PieceM.marks q n)[i]? = some (PieceM.mkd (q + i * 2)) := by simp [PieceM.marks, h]

end Go.Proofs.Ytogiocinhjbdkaa
