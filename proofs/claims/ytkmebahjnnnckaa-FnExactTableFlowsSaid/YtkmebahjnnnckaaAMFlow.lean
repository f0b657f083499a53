/- Flows compared. -/
import Derived.Test.YtkmebahjnnnckaaAM25
import Derived.Test.YtkmebahjnnnckaaAMIdx
import Derived.Test.YtkmebahjnnnckaaPktMath
namespace Go.Proofs.Ytkmebahjnnnckaa
open Go.RowKit AM
set_option linter.unusedVariables false
set_option linter.unusedSimpArgs false

def feq (a b : FlowM) : Bool := a.kind == b.kind && a.sip == b.sip && a.dip == b.dip && a.sport == b.sport && a.dport == b.dport
theorem feq_iff (a b : FlowM) : feq a b = true ↔ a = b := by
  cases a; cases b; simp [feq, and_assoc]
theorem flow_of (f : FlowM) : ofVt f.val = some (.a (.agg [cI f.kind, cI f.sip, cI f.dip, cI f.sport, cI f.dport])) := by simp [ofVt, ofV1, FlowM.val, Value.oneCell']
theorem sem_flow {t : Slots} {o : Oper} {ty : TypeId} {X Y : Operand} {a b : FlowM} {r : Bool} (ho : o.op = .binOp .eql 119 X Y ty) (hx : evO t X = some (.a (.agg [cI a.kind, cI a.sip, cI a.dip, cI a.sport, cI a.dport]))) (hy : evO t Y = some (.a (.agg [cI b.kind, cI b.sip, cI b.dip, cI b.sport, cI b.dport]))) (hr : feq a b = r) : SemIs Try.prog t o r := fun w => by
  have e1 : litO t X = .agg #[.int .i64 a.kind, .int .i64 a.sip, .int .i64 a.dip, .int .i64 a.sport, .int .i64 a.dport] := by unfold litO; rw [hx]; rfl
  have e2 : litO t Y = .agg #[.int .i64 b.kind, .int .i64 b.sip, .int .i64 b.dip, .int .i64 b.sport, .int .i64 b.dport] := by unfold litO; rw [hy]; rfl
  subst hr
  unfold execOp feq
  rw [ho]
  dsimp only
  rw [e1, e2]
  go_simp
  repeat' split
  all_goals simp_all

theorem sem_flow_ne {t : Slots} {o : Oper} {ty : TypeId} {X Y : Operand} {a b : FlowM} {r : Bool} (ho : o.op = .binOp .neq 119 X Y ty) (hx : evO t X = some (.a (.agg [cI a.kind, cI a.sip, cI a.dip, cI a.sport, cI a.dport]))) (hy : evO t Y = some (.a (.agg [cI b.kind, cI b.sip, cI b.dip, cI b.sport, cI b.dport]))) (hr : (!feq a b) = r) : SemIs Try.prog t o r := fun w => by
  have e1 : litO t X = .agg #[.int .i64 a.kind, .int .i64 a.sip, .int .i64 a.dip, .int .i64 a.sport, .int .i64 a.dport] := by unfold litO; rw [hx]; rfl
  have e2 : litO t Y = .agg #[.int .i64 b.kind, .int .i64 b.sip, .int .i64 b.dip, .int .i64 b.sport, .int .i64 b.dport] := by unfold litO; rw [hy]; rfl
  subst hr
  unfold execOp feq
  rw [ho]
  dsimp only
  rw [e1, e2]
  go_simp
  repeat' split
  all_goals simp_all
end Go.Proofs.Ytkmebahjnnnckaa
