/- Rows of Rule: cells, marks. -/
import Derived.Test.YtogiocinhjbdkaaRows2
import Derived.Test.YtogiocinhjbdkaaNestMath
namespace Go.Proofs.Ytogiocinhjbdkaa
open Go.RowKit
set_option linter.unusedSimpArgs false
set_option linter.unusedVariables false

def RuleM.arr (e : RuleM) : Array Value := #[.int .i64 e.xPriority, .int .i64 e.xKind, .int .i64 e.xSrcIp, .int .i64 e.xSrcBits, .int .i64 e.xFirstPort, .int .i64 e.xLastPort, .int .i64 e.xVlan, .int .i64 e.xAction, .int .i64 e.xQueue]
theorem RuleM.val_arr (e : RuleM) : e.val = .agg e.arr := rfl
theorem RuleM.arr_size (e : RuleM) : e.arr.size = 9 := rfl
/-- The marks from number q on. -/
def RuleM.mkd (q : Nat) : RuleM := ⟨(q : Int), (q : Int) + 1, (q : Int) + 2, (q : Int) + 3, (q : Int) + 4, (q : Int) + 5, (q : Int) + 6, (q : Int) + 7, (q : Int) + 8⟩
def RuleM.marks (q n : Nat) : List RuleM := (List.range n).map fun i => RuleM.mkd (q + i * 9)
theorem RuleM.marks_length (q n : Nat) : (RuleM.marks q n).length = n := by simp [RuleM.marks]
theorem RuleM.marks_at (q n i : Nat) (h : i < n) : (RuleM.marks q n)[i]? = some (RuleM.mkd (q + i * 9)) := by simp [RuleM.marks, h]

end Go.Proofs.Ytogiocinhjbdkaa
