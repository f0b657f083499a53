/- slices.Clone over int. -/
import Derived.Test.YtgajpbopfehclaaRegion4
import Derived.Test.YtgajpbopfehclaaRowInt
import Derived.Lib.SliceRun
namespace Go.Proofs.Ytgajpbopfehclaa
open Go.RowKit
set_option linter.unusedSimpArgs false
set_option linter.unusedVariables false

theorem elem_int : Elm Try.prog 53 3 1 := ⟨Try.underlying53, by kernel_rfl, by decide⟩
theorem el_int : El intrA 1 := ⟨fun x => rfl, fun x u hu => by simp [intrA] at hu; first | (subst hu; rfl) | (rcases hu with rfl <;> rfl)⟩

end Go.Proofs.Ytgajpbopfehclaa
