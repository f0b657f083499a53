/- The abstract machine, 25: more operations. -/
import Derived.Test.YtbidaccdjnbhfaaAM24
namespace Go.Proofs.Ytbidaccdjnbhfaa
open Go.RowKit
set_option linter.unusedVariables false
namespace AM
theorem iotb {H k b : Nat} {l : List Nat} (h : l[k]? = some b) : iot H l k = b := by unfold iot; rw [h]
section
variable {P : Program} {t : Slots} {h : Heap} {n : Nat} {o : Oper} {K : AV → Option Blk → Prop}
theorem f_min_r {T1 T2 : TypeId} {X Y : Operand} {a b : Int} (ho : o.op = .call { callee := .builtin .min, args := #[X, Y], argTypes := #[T1, T2] }) (hx : evO t X = some (I a)) (hy : evO t Y = some (I b)) (hc : b < a) (k : K (I b) none) : opF P t h n o K := f_min ho hx hy (by rw [if_pos hc]; exact k)
theorem f_min_l {T1 T2 : TypeId} {X Y : Operand} {a b : Int} (ho : o.op = .call { callee := .builtin .min, args := #[X, Y], argTypes := #[T1, T2] }) (hx : evO t X = some (I a)) (hy : evO t Y = some (I b)) (hc : ¬ b < a) (k : K (I a) none) : opF P t h n o K := f_min ho hx hy (by rw [if_neg hc]; exact k)
end
end AM
end Go.Proofs.Ytbidaccdjnbhfaa
