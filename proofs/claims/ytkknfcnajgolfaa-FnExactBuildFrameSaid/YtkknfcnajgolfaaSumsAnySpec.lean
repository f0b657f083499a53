/- One contract for each function of the model's sums: its value at every argument, and what was there stays. -/
import Derived.Test.YtkknfcnajgolfaaWordsAnySpec
import Derived.Test.YtkknfcnajgolfaaBytesVal
import Derived.Test.YtkknfcnajgolfaaBytesSpec
namespace Go.Proofs.Ytkknfcnajgolfaa
open Go.RowKit

theorem spec_put_any (s : ByteArray) (p : Int) (t : ByteArray) (w : World) (hs : s.size ≤ 4194304) (ht : t.size ≤ 4194304) (hp : -9223372036854775808 ≤ p ∧ p ≤ 9223372036854775807) :
    Calls Try.prog 68 #[.string s, .int .i64 p, .string t] w fun e w' => e = .returned (.string (put s p t)) ∧ Below w.heap.size w w' :=
  (spec_put s t p w hs ht hp).mono fun _ _ ⟨h1, m, h2⟩ => ⟨h1, h2 ▸ below_of_drewN w m⟩
theorem spec_add_any (a b : Int) (w : World) (ha : -9223372036854775808 ≤ a ∧ a ≤ 9223372036854775807) (hb : -9223372036854775808 ≤ b ∧ b ≤ 9223372036854775807) :
    Calls Try.prog 100 #[.int .i64 a, .int .i64 b] w fun e w' => e = .returned (.int .i64 (addS a b)) ∧ Below w.heap.size w w' :=
  (spec_add a b w ha hb).mono fun _ _ hh => ⟨hh.1, hh.2 ▸ Below.refl _ _⟩
theorem spec_sum_any (s : ByteArray) (w : World) (hs : s.size ≤ 4194304) :
    Calls Try.prog 86 #[.string s] w fun e w' => e = .returned (.int .i64 (sumW s)) ∧ Below w.heap.size w w' :=
  (spec_sum s w hs).mono fun _ _ hh => ⟨hh.1, hh.2 ▸ Below.refl _ _⟩
theorem spec_checksum_any (s : ByteArray) (w : World) (hs : s.size ≤ 4194304) :
    Calls Try.prog 67 #[.string s] w fun e w' => e = .returned (.int .i64 (65535 - sumW s)) ∧ Below w.heap.size w w' :=
  (spec_checksum s w hs).mono fun _ _ hh => ⟨hh.1, hh.2 ▸ Below.refl _ _⟩
end Go.Proofs.Ytkknfcnajgolfaa
