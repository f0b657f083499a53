/- PiecesOfDescs: the contracts. -/
import Derived.Test.YtfbnjemmmgobkaaAMPod2S
import Derived.Test.YtfbnjemmmgobkaaAMPod2T
import Derived.Test.YtfbnjemmmgobkaaAMPod2I
namespace Go.Proofs.Ytfbnjemmmgobkaa
open Go.RowKit AM
set_option linter.unusedVariables false
set_option linter.unusedSimpArgs false

theorem efc_spec_pod (l : List DescM) (hn : l.length ≤ 2097152) : EffC Try.prog [] 55 [one (.p (.view 6 ((l).map DescM.pv)))] (.tup [.one (.sl 2 0 0 (podL l).length), .one (cI (podS l)), .one (cI (podC l)), .one (cB (podOk l))]) [some ⟨163, 2, (podL l).map PieceM.cs⟩] := by
  cases l with
  | nil => exact efc_spec_pod_nil
  | cons d r =>
    cases hs : sameB (podB d r) (d :: r) with
    | true => simp only [podL, podS, podC, podOk, hs, if_true]; exact efc_spec_pod_yes d r hn hs
    | false => simp only [podL, podS, podC, podOk, hs, Bool.false_eq_true, if_false]; exact efc_spec_pod_no d r hn hs
theorem am_spec_pod (l : List DescM) (hn : l.length ≤ 2097152) : Pure Try.prog true 55 [one (.p (.view 6 ((l).map DescM.pv)))] (.tup [.one (.p (.view 2 ((podL l).map PieceM.pv))), .one (cI (podS l)), .one (cI (podC l)), .one (cB (podOk l))]) := pure_of_eff (efc_spec_pod l hn).eff (exp_tup (.cons _ _ _ _ (.one _ _ (exp_rows rfl rfl (fun _ => rfl) (fun _ => rfl))) (.cons _ _ _ _ (.one _ _ (exp_val rfl)) (.cons _ _ _ _ (.one _ _ (exp_val rfl)) (.cons _ _ _ _ (.one _ _ (exp_val rfl)) .nil)))))

theorem efc_impl_pod (l : List DescM) (hn : l.length ≤ 2097152) : EffC Try.prog [] 57 [one (.p (.view 6 ((l).map DescM.pv)))] (.tup [.one (.sl 2 0 0 (podL l).length), .one (cI (podS l)), .one (cI (podC l)), .one (cB (podOk l))]) [some ⟨163, 2, (podL l).map PieceM.cs⟩] := by
  cases l with
  | nil => exact efc_impl_pod_nil
  | cons d r =>
    cases hs : sameB (podB d r) (d :: r) with
    | true => simp only [podL, podS, podC, podOk, hs, if_true]; exact efc_impl_pod_yes d r hn hs
    | false => simp only [podL, podS, podC, podOk, hs, Bool.false_eq_true, if_false]; exact efc_impl_pod_no d r hn hs
theorem am_impl_pod (l : List DescM) (hn : l.length ≤ 2097152) : Pure Try.prog true 57 [one (.p (.view 6 ((l).map DescM.pv)))] (.tup [.one (.p (.view 2 ((podL l).map PieceM.pv))), .one (cI (podS l)), .one (cI (podC l)), .one (cB (podOk l))]) := pure_of_eff (efc_impl_pod l hn).eff (exp_tup (.cons _ _ _ _ (.one _ _ (exp_rows rfl rfl (fun _ => rfl) (fun _ => rfl))) (.cons _ _ _ _ (.one _ _ (exp_val rfl)) (.cons _ _ _ _ (.one _ _ (exp_val rfl)) (.cons _ _ _ _ (.one _ _ (exp_val rfl)) .nil)))))
end Go.Proofs.Ytfbnjemmmgobkaa
