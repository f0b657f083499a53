/- Rows of Slot: cells, marks. -/
import Derived.Test.YthjajgpejfoghabRows2
import Derived.Test.YthjajgpejfoghabNestMath
namespace Go.Proofs.Ythjajgpejfoghab
open Go.RowKit
set_option linter.unusedSimpArgs false
set_option linter.unusedVariables false

def SlotM.arr (e : SlotM) : Array Value := #[.int .i64 e.xState, .int .i64 e.xFlow.kind, .int .i64 e.xFlow.sip, .int .i64 e.xFlow.dip, .int .i64 e.xFlow.sport, .int .i64 e.xFlow.dport, .int .i64 e.xQueue]
theorem SlotM.val_arr (e : SlotM) : e.val = .agg e.arr := rfl
theorem SlotM.arr_size (e : SlotM) : e.arr.size = 7 := rfl
/-- The marks from number q on. -/
def SlotM.mkd (q : Nat) : SlotM := ⟨(q : Int), ⟨(q : Int) + 1, (q : Int) + 2, (q : Int) + 3, (q : Int) + 4, (q : Int) + 5⟩, (q : Int) + 6⟩
def SlotM.marks (q n : Nat) : List SlotM := (List.range n).map fun i => SlotM.mkd (q + i * 7)
theorem SlotM.marks_length (q n : Nat) : (SlotM.marks q n).length = n := by simp [SlotM.marks]
theorem SlotM.marks_at (q n i : Nat) (h : i < n) : (SlotM.marks q n)[i]? = some (SlotM.mkd (q + i * 7)) := by simp [SlotM.marks, h]

end Go.Proofs.Ythjajgpejfoghab
