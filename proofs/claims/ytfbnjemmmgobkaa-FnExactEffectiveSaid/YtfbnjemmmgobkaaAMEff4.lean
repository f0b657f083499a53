/- Effective: the contracts. -/
import Derived.Test.YtfbnjemmmgobkaaAMEff2
import Derived.Test.YtfbnjemmmgobkaaAMEff3
namespace Go.Proofs.Ytfbnjemmmgobkaa
open Go.RowKit AM
set_option linter.unusedVariables false
set_option linter.unusedSimpArgs false

theorem efc_spec_Eff (l : List RuleM) (hn : l.length ≤ 2097152) : EffC Try.prog [] 29 [one (.p (.view 9 (l.map RuleM.pv)))] (one (.sl 1 0 0 (effL l).length)) [some ⟨3, 1, (effL l).map IntE.cs⟩] := by
  by_cases hk : RulesP l
  · rw [show effL l = effs l l.length from if_pos hk]; exact efc_spec_Eff_yes l hn hk
  · rw [show effL l = [] from if_neg hk]; exact efc_spec_Eff_no l hn hk
theorem am_spec_Eff (l : List RuleM) (hn : l.length ≤ 2097152) : Pure Try.prog true 29 [one (.p (.view 9 (l.map RuleM.pv)))] (one (.p (.view 1 ((effL l).map IntE.pv)))) := pure_of_eff (efc_spec_Eff l hn).eff (.a _ _ (.one _ _ (exp_rows rfl rfl (fun _ => rfl) (fun _ => rfl))))

theorem efc_impl_Eff (l : List RuleM) (hn : l.length ≤ 2097152) : EffC Try.prog [] 31 [one (.p (.view 9 (l.map RuleM.pv)))] (one (.sl 1 0 0 (effL l).length)) [some ⟨3, 1, (effL l).map IntE.cs⟩] := by
  by_cases hk : RulesP l
  · rw [show effL l = effs l l.length from if_pos hk]; exact efc_impl_Eff_yes l hn hk
  · rw [show effL l = [] from if_neg hk]; exact efc_impl_Eff_no l hn hk
theorem am_impl_Eff (l : List RuleM) (hn : l.length ≤ 2097152) : Pure Try.prog true 31 [one (.p (.view 9 (l.map RuleM.pv)))] (one (.p (.view 1 ((effL l).map IntE.pv)))) := pure_of_eff (efc_impl_Eff l hn).eff (.a _ _ (.one _ _ (exp_rows rfl rfl (fun _ => rfl) (fun _ => rfl))))
end Go.Proofs.Ytfbnjemmmgobkaa
