/- Rows of Int that came in. -/
import Derived.Test.YtkmebahjnnnckaaAMOpen
import Derived.Test.YtkmebahjnnnckaaAMRowInt
namespace Go.Proofs.Ytkmebahjnnnckaa
open AM Go.Joins Go.ChangeShapes Go.WideShapes Go.RowKit Go.Deep
set_option linter.unusedVariables false
set_option linter.unusedSimpArgs false
namespace AvInt
section
variable {H : Type} {enc : TypeId × Value → H} {w : World} {base : Nat} {spare : Nat → Bool} {held : Bool}

set_option maxRecDepth 100000 in
theorem el {n0 : Nat} {cs : List Value} {x : DataW H × List MemPlace} (hf : DataW.trod enc Try.prog w base spare held n0 3 cs = some x) : ∃ e : IntE, ElPV w cs e.pv ∧ I64 e := by
  obtain ⟨a, h1, _, h3⟩ := DataW.trod_int Try.underlying3 hf
  subst h1
  exact ⟨a, elPV_val rfl elPV_nil, i64_bd h3⟩
theorem view {fuel : Nat} {c : Value} {x : DataW H × List MemPlace} (h : DataW.trod enc Try.prog w base spare held fuel 53 [c] = some x) : ∃ l : List IntE, PR (Lt w) w (.view 1 (l.map IntE.pv)) c ∧ c.oneCell' = true ∧ l.length ≤ maxLen ∧ ∀ e ∈ l, I64 e :=
  open_view Try.underlying53 (by kernel_rfl) (by decide) (fun _ => rfl) (fun n cs y hf => el hf) h
end
end AvInt
end Go.Proofs.Ytkmebahjnnnckaa
