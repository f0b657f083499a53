/- sameTexts answers true at two slices with the same strings. -/
import Derived.Test.YtcflfpdcphkoeaaDoorStrsOwn
import Derived.Deep.QuietTactic
import Derived.BigQuiet
namespace Go.Proofs.YtcflfpdcphkoeaaDoor
open Go.RowKit

theorem same_texts (l : List ByteArray) (B1 B2 : Nat) (v1 v2 : Value) (w : World) (h1 : Own w B1 v1 l) (h2 : Own w B2 v2 l) (hl : l.length ≤ 1000000) :
    Calls Tryd.prog 18 #[v1, v2] w fun e w' => e = .returned (.bool true) ∧ Below w.heap.size w w' := by
  obtain ⟨A1, c1, rfl, f1⟩ := h1.form
  obtain ⟨A2, c2, rfl, f2⟩ := h2.form
  have H1 := Lib.hid h1
  have H2 := Lib.hid h2
  have F1 := Lib.hid f1
  have F2 := Lib.hid f2
  clear h1 h2 f1 f2
  obtain ⟨n, hn⟩ : ∃ n, n = l.length := ⟨_, rfl⟩
  rw [← hn] at hl ⊢
  have HN := Lib.hid hn
  clear hn
  go_enter Tryd.func18, Tryd.ntmps18
  go_wp2
  go_loopw [5] (fun i wr => ∃ k : Nat, k ≤ n ∧ i = .int .i64 k ∧ ∃ q, wr = w.drewN q) (fun i _ => n - (intOf i).toNat)
  case atStart => exact ⟨0, Nat.zero_le _, rfl, 0, rfl⟩
  case round =>
    obtain ⟨k, hk, rfl, q, rfl⟩ := hrel
    by_cases hlt : k < n
    · obtain ⟨g1, rfl, _, _⟩ := F1.out (by have := HN.out; omega)
      obtain ⟨g2, rfl, _, _⟩ := F2.out (by have := HN.out; omega)
      have hk' : k < l.length := by have := HN.out; omega
      have x1 := H1.out.cell k hk'
      have x2 := H2.out.cell k hk'
      generalize l[k] = x at x1 x2
      go_wp2_with fail
      go_quiet (fail)
      go_wp2
      go_roundw
      case rel => exact ⟨k + 1, by omega, by go_num, _, rfl⟩
      case measure => simp [intOf]; omega
    · go_wp2
      go_ret
      exact ⟨rfl, below_drewN (Below.refl _ _) _⟩

end Go.Proofs.YtcflfpdcphkoeaaDoor
