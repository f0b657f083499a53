/- Rows of ints, empty or not, as values: what they hold, kept over calls; the laws' own help on them. -/
import Derived.Test.YthjajgpejfoghabIntsB
import Derived.Test.YthjajgpejfoghabIntRowDef
namespace Go.Proofs.Ythjajgpejfoghab
open Go.RowKit
set_option linter.unusedSimpArgs false
set_option linter.unusedVariables false
theorem eq_zero (w : World) (a1 a2 : Option Addr) (c1 c2 : Nat) :
    Calls Try.prog 77 #[.slice a1 0 c1, .slice a2 0 c2] w fun e w' => e = .returned (.bool true) ∧ Below w.heap.size w w' := by
  go_enter Try.func77, Try.ntmps77
  go_wp2
  go_loop [5] (fun i => i = .int .i64 0) (fun _ => 0)
  case atStart => rfl
  case round =>
    subst hrel
    go_wp2
    go_ret
    exact ⟨rfl, Below.refl _ _⟩
theorem mark_zero (w : World) (a : Option Addr) (c : Nat) (q : Int) :
    Calls Try.prog 89 #[.slice a 0 c, .int .i64 q] w fun e w' => e = .returned (.int .i64 q) ∧ w = w' := by
  go_enter Try.func89, Try.ntmps89
  go_wp2
  go_loop [1, 5] (fun x i => x = .int .i64 q ∧ i = .int .i64 0) (fun _ _ => 0)
  case atStart => exact ⟨rfl, rfl⟩
  case round =>
    obtain ⟨rfl, rfl⟩ := hrel
    go_wp2
    go_ret
    exact ⟨rfl, rfl⟩
theorem held_zero (w : World) (a : Option Addr) (c : Nat) (q : Int) :
    Calls Try.prog 90 #[.slice a 0 c, .int .i64 q] w fun e w' => e = .returned (.int .i64 q) ∧ Below w.heap.size w w' := by
  go_enter Try.func90, Try.ntmps90
  go_wp2
  go_loop [1, 5] (fun x i => x = .int .i64 q ∧ i = .int .i64 0) (fun _ _ => 0)
  case atStart => exact ⟨rfl, rfl⟩
  case round =>
    obtain ⟨rfl, rfl⟩ := hrel
    go_wp2
    go_ret
    exact ⟨rfl, Below.refl _ _⟩
theorem eq_row (w : World) (B1 B2 n : Nat) (v1 v2 : Value) (f : Nat → Int) (hn : n ≤ 4194304) (h1 : IntRow w B1 v1 n f) (h2 : IntRow w B2 v2 n f) :
    Calls Try.prog 77 #[v1, v2] w fun e w' => e = .returned (.bool true) ∧ Below w.heap.size w w' := by
  rcases h1 with ⟨rfl, a1, c1, rfl⟩ | ⟨h0, g1, c1, cs1, rfl, _, _, k1, _, f1⟩
  · rcases h2 with ⟨_, a2, c2, rfl⟩ | ⟨h, _⟩
    · exact eq_zero w a1 a2 c1 c2
    · exact absurd h (by omega)
  · rcases h2 with ⟨h, _⟩ | ⟨_, g2, c2, cs2, rfl, _, _, k2, _, f2⟩
    · exact absurd h (by omega)
    · exact eq_ints w none none g1 g2 n c1 c2 f hn (fun j hj => by rw [cell_of_row w g1 j cs1 _ (0, 0) k1]; exact f1 j hj) (fun j hj => by rw [cell_of_row w g2 j cs2 _ (0, 0) k2]; exact f2 j hj)
theorem held_row (w : World) (B n : Nat) (v : Value) (q : Int) (hn : n ≤ 4194304) (hq : 0 ≤ q ∧ q ≤ 4194304) (h : IntRow w B v n (fun j => q + j)) :
    Calls Try.prog 90 #[v, .int .i64 q] w fun e w' => e = .returned (.int .i64 (q + n)) ∧ Below w.heap.size w w' := by
  rcases h with ⟨rfl, a, c, rfl⟩ | ⟨h0, g, c, cs, rfl, _, _, k, _, f⟩
  · simpa using held_zero w a c q
  · exact held_ints w g n c q hn hq (fun j hj => by rw [cell_of_row w g j cs _ (0, 0) k]; exact f j hj)
/-- The marks stand in the row; what lies below B, and every row of a block below B, is as it was. -/
theorem mark_row (w : World) (B n : Nat) (v : Value) (q : Int) (f : Nat → Int) (hn : n ≤ 4194304) (hq : 0 ≤ q ∧ q ≤ 4194304) (hB : B ≤ w.heap.size) (h : IntRow w B v n f) :
    Calls Try.prog 89 #[v, .int .i64 q] w fun e w' => e = .returned (.int .i64 (q + n)) ∧ IntRow w' B v n (fun j => q + j) ∧ Below B w w' ∧ w'.heap.size = w.heap.size := by
  rcases h with ⟨rfl, a, c, rfl⟩ | ⟨h0, g, c, cs, rfl, hBg, hgl, k, hs, hf⟩
  · exact (mark_zero w a c q).mono fun e w' hh => ⟨by rw [hh.1]; simp, .inl ⟨rfl, a, c, rfl⟩, hh.2 ▸ Below.refl _ _, by rw [hh.2]⟩
  · refine (mark_ints w w B g n c q cs hn hq k hs.1 hBg (Below.refl _ _)).mono fun e w' hh => ⟨hh.1, ?_, hh.2.2, hh.2.1.size⟩
    obtain ⟨cs', r1, r2, r3⟩ := hh.2.1.row
    exact .inr ⟨h0, g, c, cs', rfl, hBg, by rw [hh.2.1.size]; exact hgl, r1, ⟨by omega, hs.2⟩, r3⟩
end Go.Proofs.Ythjajgpejfoghab
