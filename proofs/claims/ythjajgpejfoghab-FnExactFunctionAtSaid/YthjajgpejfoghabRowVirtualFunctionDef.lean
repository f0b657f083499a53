/- Rows of VirtualFunction: cells, marks. -/
import Derived.Test.YthjajgpejfoghabRows2
import Derived.Test.YthjajgpejfoghabNestMath
namespace Go.Proofs.Ythjajgpejfoghab
open Go.RowKit
set_option linter.unusedSimpArgs false
set_option linter.unusedVariables false

def VirtualFunctionM.arr (e : VirtualFunctionM) : Array Value := #[.int .i64 e.xDomain, .int .i64 e.xPort, .int .i64 e.xBucket.xRate, .int .i64 e.xBucket.xBurst, .int .i64 e.xBucket.xTokens, .bool e.xEnabled, .int .i64 e.xSent, .int .i64 e.xRefused]
theorem VirtualFunctionM.val_arr (e : VirtualFunctionM) : e.val = .agg e.arr := rfl
theorem VirtualFunctionM.arr_size (e : VirtualFunctionM) : e.arr.size = 8 := rfl
/-- The marks from number q on. -/
def VirtualFunctionM.mkd (q : Nat) : VirtualFunctionM := ⟨(q : Int), (q : Int) + 1, ⟨(q : Int) + 2, (q : Int) + 3, (q : Int) + 4⟩, ((q : Int) + 5) % 3 == 0, (q : Int) + 6, (q : Int) + 7⟩
def VirtualFunctionM.marks (q n : Nat) : List VirtualFunctionM := (List.range n).map fun i => VirtualFunctionM.mkd (q + i * 8)
theorem VirtualFunctionM.marks_length (q n : Nat) : (VirtualFunctionM.marks q n).length = n := by simp [VirtualFunctionM.marks]
theorem VirtualFunctionM.marks_at (q n i : Nat) (h : i < n) : (VirtualFunctionM.marks q n)[i]? = some (VirtualFunctionM.mkd (q + i * 8)) := by simp [VirtualFunctionM.marks, h]

end Go.Proofs.Ythjajgpejfoghab
