/- At every argument ChangedPages answers as the model does, in memory of its own, and writes into no argument: the law FnExactChangedPages returns true for every input, and its arguments read as before. No condition. -/
import Derived.Test.YtgajpbopfehclaaChangedI
import Derived.Test.YtgajpbopfehclaaChangedS
import Derived.Test.YtgajpbopfehclaaArgMemory
import Derived.Test.YtgajpbopfehclaaRowInt
import Derived.Deep.DeepCutAuto
import Derived.StillTailTactics
import Derived.Laws.CopyOwn
import Derived.Test.YtgajpbopfehclaaLiftExactChangedPages
import Derived.Test.YtgajpbopfehclaaFactExactChangedPages
import Derived.OpenShut
import Derived.ShutString
import Derived.ChangeOld
namespace Go.Proofs.Ytgajpbopfehclaa.fnExactChangedPages
open Go.ChangeShapes Go.WideShapes Go.ChangeAt Go.RowKit
open Go.ChangeMaps (open_string shut_string)
set_option linter.unusedVariables false

theorem over : Rows.fnExactChangedPagesRow.holds Try.pinned (OpenSpec.ofChange Rows.fnExactChangedPagesSpec) :=
  OpenClaim.holds_of_wide 7 Try.f7 rfl rfl rfl rfl rfl rfl rfl ⟨rfl, rfl, rfl, rfl, rfl⟩ rfl rfl rfl rfl rfl (by kernel_rfl) Try.func7 facts
    (of_decide_eq_true (by kernel_rfl)) (by unfold Func.isWrapper; first | (rw [if_pos (by decide +kernel)]; kernel_rfl) | (rw [if_neg (by decide +kernel)]; exact ⟨rfl, rfl⟩))
    (fun os started H enc _ => lifted os started H enc)

/-- The statement. -/
theorem proved : Rows.FnExactChangedPagesSaid := over

end Go.Proofs.Ytgajpbopfehclaa.fnExactChangedPages
