/- Steps on a flash memory: models. -/
import Derived.Test.YtfbnjemmmgobkaaPktMath
namespace Go.Proofs.Ytfbnjemmmgobkaa
structure StepM where
  kind : Int
  bank : Int
  at_ : Int
  body : ByteArray
def StepM.val (e : StepM) : Value := .agg #[.int .i64 e.kind, .int .i64 e.bank, .int .i64 e.at_, .string e.body]
def StepM.Wf (e : StepM) : Prop := I64 e.kind ∧ I64 e.bank ∧ I64 e.at_ ∧ e.body.size ≤ maxLen
def StepM.Ok (e : StepM) : Prop := (0 ≤ e.bank ∧ e.bank ≤ 1) ∧ ((e.kind = 0 ∧ e.at_ = 0 ∧ e.body.size = 0) ∨ (e.kind = 1 ∧ (1 ≤ e.body.size ∧ e.body.size ≤ 8) ∧ (0 ≤ e.at_ ∧ e.at_ ≤ 96 - e.body.size)))
instance instDecStepOk (e : StepM) : Decidable e.Ok := by unfold StepM.Ok; infer_instance
end Go.Proofs.Ytfbnjemmmgobkaa
