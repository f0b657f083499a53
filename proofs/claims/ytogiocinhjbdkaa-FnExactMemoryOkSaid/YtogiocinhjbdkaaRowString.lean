/- Rows of strings. -/
import Derived.Test.YtogiocinhjbdkaaRows2
import Derived.Deep.QuietTactic
import Derived.BigQuiet
import Derived.StillTailTactics
import Derived.Test.YtogiocinhjbdkaaStrs
namespace Go.Proofs.Ytogiocinhjbdkaa
open Go.RowKit
set_option linter.unusedSimpArgs false
set_option linter.unusedVariables false

def strrA (x : ByteArray) : Array Value := #[.string x]
def strrM (q : Nat) : ByteArray := mT q
def strrMs (q n : Nat) : List ByteArray := (List.range n).map fun i => strrM (q + i)
theorem strrMs_length (q n : Nat) : (strrMs q n).length = n := by simp [strrMs]
theorem strrMs_at (q n i : Nat) (h : i < n) : (strrMs q n)[i]? = some (strrM (q + i)) := by simp [strrMs, h]

set_option maxHeartbeats 4000000 in
set_option maxRecDepth 100000 in
theorem eq_strrs (w : World) (S1 S2 : Nat → Prop) (T1 T2 : TypeId) (v1 v2 : Value) (l : List ByteArray) (hn : l.length ≤ 4194304) (h1 : Row w S1 T1 1 v1 (l.map strrA)) (h2 : Row w S2 T2 1 v2 (l.map strrA)) :
    Calls Try.prog 138 #[v1, v2] w fun e w' => e = .returned (.bool true) ∧ Below w.heap.size w w' := by
  obtain ⟨a1, g1, c1, rfl, x1, _⟩ := h1.open
  obtain ⟨a2, g2, c2, rfl, x2, _⟩ := h2.open
  rw [List.length_map]
  obtain ⟨n, hl⟩ : ∃ n, n = l.length := ⟨_, rfl⟩
  rw [← hl] at hn ⊢
  have HL := Lib.hid hl
  have H1 := Lib.hid x1
  have H2 := Lib.hid x2
  clear h1 h2 hl x1 x2
  go_enter Try.func138, Try.ntmps138
  go_wp2
  go_loopw [5] (fun i wr => ∃ k : Nat, k ≤ n ∧ i = .int .i64 k ∧ ∃ q, wr = w.drewN q) (fun i _ => n + 1 - (intOf i).toNat)
  case atStart => exact ⟨0, by omega, rfl, 0, rfl⟩
  case round =>
    obtain ⟨k, hk, rfl, q, rfl⟩ := hrel
    by_cases hlt : k < n
    · have hk' : k < l.length := by have := HL.out; omega
      have hne : l.map strrA ≠ [] := fun e => by simp at e; rw [e] at hk'; simp at hk'
      obtain ⟨ea1, eg1⟩ := H1.out.1 hne
      obtain ⟨ea2, eg2⟩ := H2.out.1 hne
      subst ea1
      subst ea2
      have x1 := H1.out.2 k (strrA l[k]) (by simp [hk']) 0 (by omega)
      have x2 := H2.out.2 k (strrA l[k]) (by simp [hk']) 0 (by omega)
      clear hne
      generalize l[k] = e at x1 x2
      unfold strrA at x1 x2
      simp at x1 x2
      have d1 : (w.drewN q).cell? ⟨g1, k, none⟩ = some (.string e) := x1
      have d2 : (w.drewN q).cell? ⟨g2, k, none⟩ = some (.string e) := x2
      have e1 : (k : Int) < (n : Int) := by omega
      have e0 : (0 : Int) ≤ (k : Int) := by omega
      go_wp2
      go_quiet (fail)
      go_wp2
      go_roundw
      case rel => exact ⟨k + 1, by omega, by go_num, _, rfl⟩
      case measure => simp [intOf]; omega
    · obtain rfl : k = n := by omega
      go_wp2
      go_ret
      exact ⟨rfl, below_drewM _⟩

end Go.Proofs.Ytogiocinhjbdkaa
