/- Contracts of the model's words, of every argument. -/
import Derived.Test.YtfbnjemmmgobkaaBytesVal
import Derived.Test.YtfbnjemmmgobkaaWordsSpec
namespace Go.Proofs.Ytfbnjemmmgobkaa
open Go.RowKit

theorem spec_word32 (v : Int) (w : World) : Calls Try.prog 177 #[.int .i64 v] w fun e w' => e = .returned (.string (word32V v)) ∧ Below w.heap.size w w' := by
  by_cases h : 0 ≤ v ∧ v ≤ 4294967295
  · rw [show word32V v = w32 v from if_pos h]; exact spec_word32_in v w h.1 h.2
  · rw [show word32V v = ⟨#[]⟩ from if_neg h]; exact (spec_word32_out v w h).mono fun _ _ hh => ⟨hh.1, hh.2 ▸ Below.refl _ _⟩
end Go.Proofs.Ytfbnjemmmgobkaa
