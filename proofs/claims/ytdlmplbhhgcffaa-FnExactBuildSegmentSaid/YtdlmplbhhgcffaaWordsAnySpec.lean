/- Contracts of the model's words, of every argument. -/
import Derived.Test.YtdlmplbhhgcffaaBytesVal
import Derived.Test.YtdlmplbhhgcffaaWordsSpec
namespace Go.Proofs.Ytdlmplbhhgcffaa
open Go.RowKit

theorem spec_word16 (v : Int) (w : World) : Calls Try.prog 66 #[.int .i64 v] w fun e w' => e = .returned (.string (word16V v)) ∧ Below w.heap.size w w' := by
  by_cases h : 0 ≤ v ∧ v ≤ 65535
  · rw [show word16V v = w16 v from if_pos h]; exact spec_word16_in v w h.1 h.2
  · rw [show word16V v = ⟨#[]⟩ from if_neg h]; exact (spec_word16_out v w h).mono fun _ _ hh => ⟨hh.1, hh.2 ▸ Below.refl _ _⟩
theorem spec_word32 (v : Int) (w : World) : Calls Try.prog 71 #[.int .i64 v] w fun e w' => e = .returned (.string (word32V v)) ∧ Below w.heap.size w w' := by
  by_cases h : 0 ≤ v ∧ v ≤ 4294967295
  · rw [show word32V v = w32 v from if_pos h]; exact spec_word32_in v w h.1 h.2
  · rw [show word32V v = ⟨#[]⟩ from if_neg h]; exact (spec_word32_out v w h).mono fun _ _ hh => ⟨hh.1, hh.2 ▸ Below.refl _ _⟩
theorem spec_get16_any (s : ByteArray) (p : Int) (w : World) (hs : s.size ≤ maxLen) (hp : -9223372036854775808 ≤ p ∧ p ≤ 9223372036854775807) :
    Calls Try.prog 67 #[.string s, .int .i64 p] w fun e w' => e = .returned (.int .i64 (get16 s p)) ∧ Below w.heap.size w w' :=
  (spec_get16 s p w hs hp).mono fun _ _ ⟨h1, m, h2⟩ => ⟨h1, h2 ▸ below_of_drewN w m⟩
theorem spec_get32_any (s : ByteArray) (p : Int) (w : World) (hs : s.size ≤ maxLen) (hp : -9223372036854775808 ≤ p ∧ p ≤ 9223372036854775807) :
    Calls Try.prog 68 #[.string s, .int .i64 p] w fun e w' => e = .returned (.int .i64 (get32 s p)) ∧ Below w.heap.size w w' :=
  (spec_get32 s p w hs hp).mono fun _ _ ⟨h1, m, h2⟩ => ⟨h1, h2 ▸ below_of_drewN w m⟩

end Go.Proofs.Ytdlmplbhhgcffaa
