/- Rows of String that came in. -/
import Derived.Test.YtfbnjemmmgobkaaAMOpen
import Derived.Test.YtfbnjemmmgobkaaAMRowString
namespace Go.Proofs.Ytfbnjemmmgobkaa
open AM Go.Joins Go.ChangeShapes Go.WideShapes Go.RowKit Go.Deep
set_option linter.unusedVariables false
set_option linter.unusedSimpArgs false
namespace AvString
section
variable {H : Type} {enc : TypeId × Value → H} {w : World} {base : Nat} {spare : Nat → Bool} {held : Bool}

set_option maxRecDepth 100000 in
theorem el {n0 : Nat} {cs : List Value} {x : DataW H × List MemPlace} (hf : DataW.trod enc Try.prog w base spare held n0 9 cs = some x) : ∃ e : StrE, ElPV w cs e.pv ∧ e.size ≤ maxLen := by
  obtain ⟨a, h1, _, h3⟩ := DataW.trod_string Try.underlying9 hf
  subst h1
  exact ⟨a, elPV_val rfl elPV_nil, h3⟩
theorem view {fuel : Nat} {c : Value} {x : DataW H × List MemPlace} (h : DataW.trod enc Try.prog w base spare held fuel 44 [c] = some x) : ∃ l : List StrE, PR (Lt w) w (.view 1 (l.map StrE.pv)) c ∧ c.oneCell' = true ∧ l.length ≤ maxLen ∧ ∀ e ∈ l, e.size ≤ maxLen :=
  open_view Try.underlying44 (by kernel_rfl) (by decide) (fun _ => rfl) (fun n cs y hf => el hf) h
end
end AvString
end Go.Proofs.Ytfbnjemmmgobkaa
