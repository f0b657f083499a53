/- Rows of Flow: cells, marks. -/
import Derived.Test.YtogiocinhjbdkaaRows2
import Derived.Test.YtogiocinhjbdkaaPktMath
namespace Go.Proofs.Ytogiocinhjbdkaa
open Go.RowKit
set_option linter.unusedSimpArgs false
set_option linter.unusedVariables false

def FlowM.arr (e : FlowM) : Array Value := #[.int .i64 e.kind, .int .i64 e.sip, .int .i64 e.dip, .int .i64 e.sport, .int .i64 e.dport]
theorem FlowM.val_arr (e : FlowM) : e.val = .agg e.arr := rfl
theorem FlowM.arr_size (e : FlowM) : e.arr.size = 5 := rfl
/-- The marks from number q on. -/
def FlowM.mkd (q : Nat) : FlowM := ⟨(q : Int), (q : Int) + 1, (q : Int) + 2, (q : Int) + 3, (q : Int) + 4⟩
def FlowM.marks (q n : Nat) : List FlowM := (List.range n).map fun i => FlowM.mkd (q + i * 5)
theorem FlowM.marks_length (q n : Nat) : (FlowM.marks q n).length = n := by simp [FlowM.marks]
theorem FlowM.marks_at (q n i : Nat) (h : i < n) : (FlowM.marks q n)[i]? = some (FlowM.mkd (q + i * 5)) := by simp [FlowM.marks, h]

end Go.Proofs.Ytogiocinhjbdkaa
