/- The texts by which the laws mark strings, by the abstract machine. -/
import Derived.Test.YtkmebahjnnnckaaAM24
import Derived.Test.YtkmebahjnnnckaaMarkText
namespace Go.Proofs.Ytkmebahjnnnckaa
open Go.RowKit AM
set_option linter.unusedVariables false
theorem am_laws_markText (k : Int) (h : 1 ≤ k ∧ k ≤ 1000000000) : Pure Try.prog true 110 [I k] (Sg (mTI k)) := pure_of_calls (by kernel_rfl) rfl rfl (fun w => by
  have h2 := mark_text k.toNat w (by omega) (by omega)
  rw [show ((k.toNat : Nat) : Int) = k by omega] at h2
  exact h2)
end Go.Proofs.Ytkmebahjnnnckaa
