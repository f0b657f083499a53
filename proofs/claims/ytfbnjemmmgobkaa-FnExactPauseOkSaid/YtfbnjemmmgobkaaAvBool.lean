/- Rows of Bool that came in. -/
import Derived.Test.YtfbnjemmmgobkaaAMOpen
import Derived.Test.YtfbnjemmmgobkaaAMRowBool
namespace Go.Proofs.Ytfbnjemmmgobkaa
open AM Go.Joins Go.ChangeShapes Go.WideShapes Go.RowKit Go.Deep
set_option linter.unusedVariables false
set_option linter.unusedSimpArgs false
namespace AvBool
section
variable {H : Type} {enc : TypeId × Value → H} {w : World} {base : Nat} {spare : Nat → Bool} {held : Bool}

set_option maxRecDepth 100000 in
theorem el {n0 : Nat} {cs : List Value} {x : DataW H × List MemPlace} (hf : DataW.trod enc Try.prog w base spare held n0 4 cs = some x) : ∃ e : BoolE, ElPV w cs e.pv ∧ True := by
  obtain ⟨a, h1, _⟩ := DataW.trod_bool Try.underlying4 hf
  subst h1
  exact ⟨a, elPV_val rfl elPV_nil, trivial⟩
theorem view {fuel : Nat} {c : Value} {x : DataW H × List MemPlace} (h : DataW.trod enc Try.prog w base spare held fuel 110 [c] = some x) : ∃ l : List BoolE, PR (Lt w) w (.view 1 (l.map BoolE.pv)) c ∧ c.oneCell' = true ∧ l.length ≤ maxLen ∧ ∀ e ∈ l, True :=
  open_view Try.underlying110 (by kernel_rfl) (by decide) (fun _ => rfl) (fun n cs y hf => el hf) h
end
end AvBool
end Go.Proofs.Ytfbnjemmmgobkaa
