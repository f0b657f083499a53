/- Rows of ints, empty or not, as values: what they hold, kept over calls. -/
import Derived.Test.YtogiocinhjbdkaaKit
import Derived.Laws.Rows
namespace Go.Proofs.Ytogiocinhjbdkaa
open Go.RowKit
/-- A row of n ints: empty in any form, or a block at or above B that begins with them. -/
def IntRow (W : World) (B : Nat) (v : Value) (n : Nat) (f : Nat → Int) : Prop :=
  (n = 0 ∧ ∃ a c, v = .slice a 0 c) ∨
  (0 < n ∧ ∃ g c cs, v = .slice (some ⟨g, 0, none⟩) n c ∧ B ≤ g ∧ g < W.heap.size ∧ W.heap[g]? = some (.cells cs 3 (0, 0)) ∧ (n ≤ cs.size ∧ n ≤ c ∧ c ≤ maxLen) ∧ ∀ j : Nat, j < n → cs[j]? = some (.int .i64 (f j)))
theorem IntRow.below {W W' : World} {B : Nat} {v : Value} {n : Nat} {f : Nat → Int} (h : IntRow W B v n f) (hb : Below W.heap.size W W') : IntRow W' B v n f := by
  rcases h with h | ⟨h0, g, c, cs, h1, h2, h3, h4, h5, h6⟩
  · exact .inl h
  · exact .inr ⟨h0, g, c, cs, h1, h2, Nat.lt_of_lt_of_le h3 hb.size, (hb.block g h3).trans h4, h5, h6⟩
theorem IntRow.cap_le {W : World} {B : Nat} {v : Value} {n : Nat} {f : Nat → Int} (h : IntRow W B v n f) {a : Option Addr} (c : Nat) (e : v = .slice a n c) : n ≤ c := by
  rcases h with ⟨h, _⟩ | ⟨h0, g, c', cs, h1, h2, h3, h4, h5, h6⟩
  · omega
  · rw [e] at h1; cases h1; exact h5.2.1
theorem IntRow.mono {W : World} {B B' : Nat} {v : Value} {n : Nat} {f : Nat → Int} (h : IntRow W B v n f) (hb : B' ≤ B) : IntRow W B' v n f := by
  rcases h with h | ⟨h0, g, c, cs, h1, h2, h3, h4, h5, h6⟩
  · exact .inl h
  · exact .inr ⟨h0, g, c, cs, h1, Nat.le_trans hb h2, h3, h4, h5, h6⟩
end Go.Proofs.Ytogiocinhjbdkaa
