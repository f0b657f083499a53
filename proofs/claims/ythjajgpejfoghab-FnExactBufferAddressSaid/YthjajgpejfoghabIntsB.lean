/- Rows of ints: the laws' own help (eqIntS of equal rows, heldIntS). -/
import Derived.Test.YthjajgpejfoghabKit
import Derived.Deep.QuietTactic
import Derived.BigQuiet
import Derived.Laws.Tables
import Derived.Laws.CopyOwn
import Derived.Laws.Rows
namespace Go.Proofs.Ythjajgpejfoghab
open Go.RowKit
set_option linter.unusedSimpArgs false
set_option linter.unusedVariables false
theorem eq_ints_nil (w : World) :
    Calls Try.prog 77 #[.slice none 0 0, .slice none 0 0] w fun e w' => e = .returned (.bool true) ∧ Below w.heap.size w w' := by
  go_enter Try.func77, Try.ntmps77
  go_wp2
  go_loop [5] (fun i => i = .int .i64 0) (fun _ => 0)
  case atStart => rfl
  case round =>
    subst hrel
    go_wp2
    go_ret
    exact ⟨rfl, Below.refl _ _⟩
set_option maxHeartbeats 2000000 in
set_option maxRecDepth 100000 in
theorem eq_ints (w : World) (a1 a2 : Option Addr) (g1 g2 n c1 c2 : Nat) (f : Nat → Int) (hn : n ≤ 4194304) (h1 : ∀ j, j < n → w.cell? ⟨g1, j, none⟩ = some (.int .i64 (f j))) (h2 : ∀ j, j < n → w.cell? ⟨g2, j, none⟩ = some (.int .i64 (f j))) :
    Calls Try.prog 77 #[.slice (some ⟨g1, 0, none⟩) n c1, .slice (some ⟨g2, 0, none⟩) n c2] w fun e w' => e = .returned (.bool true) ∧ Below w.heap.size w w' := by
  go_enter Try.func77, Try.ntmps77
  go_wp2
  go_loopw [5] (fun i wr => ∃ k : Nat, k ≤ n ∧ i = .int .i64 k ∧ ∃ m, wr = w.drewN m) (fun i _ => n + 1 - (intOf i).toNat)
  case atStart => exact ⟨0, by omega, rfl, 0, rfl⟩
  case round =>
    obtain ⟨k, hk, rfl, m, rfl⟩ := hrel
    by_cases hlt : k < n
    · have d1 : (w.drewN m).cell? ⟨g1, k, none⟩ = some (.int .i64 (f k)) := h1 k hlt
      have d2 : (w.drewN m).cell? ⟨g2, k, none⟩ = some (.int .i64 (f k)) := h2 k hlt
      have e1 : (k : Int) < (n : Int) := by omega
      have e0 : (0 : Int) ≤ (k : Int) := by omega
      go_wp2
      go_quiet (fail)
      go_wp2
      go_roundw
      case rel => exact ⟨k + 1, by omega, by go_num, _, rfl⟩
      case measure => simp [intOf]; omega
    · obtain rfl : k = n := by omega
      go_wp2
      go_ret
      exact ⟨rfl, below_drewM m⟩
set_option maxHeartbeats 2000000 in
set_option maxRecDepth 100000 in
theorem held_ints (w : World) (g n c : Nat) (q : Int) (hn : n ≤ 4194304) (hq : 0 ≤ q ∧ q ≤ 4194304) (h : ∀ j : Nat, j < n → w.cell? ⟨g, j, none⟩ = some (.int .i64 (q + j))) :
    Calls Try.prog 90 #[.slice (some ⟨g, 0, none⟩) n c, .int .i64 q] w fun e w' => e = .returned (.int .i64 (q + n)) ∧ Below w.heap.size w w' := by
  go_enter Try.func90, Try.ntmps90
  go_wp2
  go_loopw [1, 5] (fun x i wr => ∃ k : Nat, k ≤ n ∧ i = .int .i64 k ∧ x = .int .i64 (q + k) ∧ wr = w) (fun _ i _ => n + 1 - (intOf i).toNat)
  case atStart => exact ⟨0, by omega, rfl, by simp, rfl⟩
  case round =>
    obtain ⟨k, hk, rfl, rfl, rfl⟩ := hrel
    by_cases hlt : k < n
    · have d1 := h k hlt
      have e1 : (k : Int) < (n : Int) := by omega
      have e0 : (0 : Int) ≤ (k : Int) := by omega
      go_wp2
      go_roundw
      case rel => exact ⟨k + 1, by omega, by go_num, by go_num, by first | rfl | trivial⟩
      case measure => simp [intOf]; omega
    · obtain rfl : k = n := by omega
      go_wp2
      go_ret
      exact ⟨rfl, Below.refl _ _⟩
/-- What a mark leaves: the row's block with the marks in it, all else as it was. -/
structure Marked (w w' : World) (g n : Nat) (q : Int) (T : TypeId) (sz : Nat) : Prop where
  row : ∃ cs : Array Value, w'.heap[g]? = some (.cells cs T (0, 0)) ∧ cs.size = sz ∧ ∀ j : Nat, j < n → cs[j]? = some (.int .i64 (q + j))
  rest : ∀ b, b ≠ g → w'.heap[b]? = w.heap[b]?
  size : w'.heap.size = w.heap.size
theorem Marked.cell {w w' : World} {g n : Nat} {q : Int} {T : TypeId} {sz : Nat} (h : Marked w w' g n q T sz) (j : Nat) (hj : j < n) : w'.cell? ⟨g, j, none⟩ = some (.int .i64 (q + j)) := by
  obtain ⟨cs, h1, _, h3⟩ := h.row
  rw [cell_of_row w' g j cs T (0, 0) h1]
  exact h3 j hj
set_option maxHeartbeats 2000000 in
set_option maxRecDepth 100000 in
theorem mark_ints (w0 w : World) (B g n c : Nat) (q : Int) (cs : Array Value) (hn : n ≤ 4194304) (hq : 0 ≤ q ∧ q ≤ 4194304) (hg : w.heap[g]? = some (.cells cs 3 (0, 0))) (hs : n ≤ cs.size) (hB : B ≤ g) (hb : Below B w0 w) :
    Calls Try.prog 89 #[.slice (some ⟨g, 0, none⟩) n c, .int .i64 q] w fun e w' => e = .returned (.int .i64 (q + n)) ∧ Marked w w' g n q 3 cs.size ∧ Below B w0 w' := by
  have Hg := Lib.hid hg
  clear hg
  go_enter Try.func89, Try.ntmps89
  go_wp2
  go_loopw [1, 5] (fun x i wr => ∃ k : Nat, k ≤ n ∧ i = .int .i64 k ∧ x = .int .i64 (q + k) ∧ Hid (Marked w wr g k q 3 cs.size) ∧ Hid (Below B w0 wr)) (fun _ i _ => n + 1 - (intOf i).toNat)
  case atStart => exact ⟨0, by omega, rfl, by simp, Lib.hid ⟨⟨cs, Hg.out, rfl, fun j hj => by omega⟩, fun _ _ => rfl, rfl⟩, Lib.hid hb⟩
  case round =>
    obtain ⟨k, hk, rfl, rfl, HM, HB⟩ := hrel
    by_cases hlt : k < n
    · obtain ⟨cur, hc1, hc2, hc3⟩ := HM.out.row
      obtain ⟨u, d1⟩ : ∃ u, wr.cell? ⟨g, k, none⟩ = some u := ⟨cur[k]'(by omega), by rw [cell_of_row wr g k cur _ (0, 0) hc1]; exact Array.getElem?_eq_getElem (by omega)⟩
      have d2 : wr.frozen? ⟨g, k, none⟩ = false := frozen_of_row wr g k cur _ hc1
      have e1 : (k : Int) < (n : Int) := by omega
      have e0 : (0 : Int) ≤ (k : Int) := by omega
      have es := setCell_eq_setRow wr g k cur 3 (0, 0) (.int .i64 (q + k)) hc1
      have HM2 : Hid (Marked w (wr.setCell ⟨g, k, none⟩ (.int .i64 (q + k))) g (k + 1) q 3 cs.size) := Lib.hid (by
        rw [es]
        refine ⟨⟨_, setRow_heap wr g cur _ _ (0, 0) hc1, by simpa using hc2, fun j hj => ?_⟩, fun b hbg => (setRow_other wr g b _ hbg).trans (HM.out.rest b hbg), by simpa [World.setRow] using HM.out.size⟩
        by_cases e : j = k
        · subst e; simp [Array.getElem?_setIfInBounds, show j < cur.size by omega]
        · rw [Array.getElem?_setIfInBounds_ne (Ne.symm e)]; exact hc3 j (by omega))
      have HB2 : Hid (Below B w0 (wr.setCell ⟨g, k, none⟩ (.int .i64 (q + k)))) := Lib.hid (by rw [es]; exact below_setRow HB.out hB _)
      clear es hc1 hc2 hc3
      go_wp2
      go_roundw
      case rel => exact ⟨k + 1, by omega, by go_num, by go_num, HM2, HB2⟩
      case measure => simp [intOf]; omega
    · obtain rfl : k = n := by omega
      go_wp2
      go_ret
      exact ⟨rfl, HM.out, HB.out⟩
theorem mark_ints_nil (w : World) (q : Int) :
    Calls Try.prog 89 #[.slice none 0 0, .int .i64 q] w fun e w' => e = .returned (.int .i64 q) ∧ Below w.heap.size w w' := by
  go_enter Try.func89, Try.ntmps89
  go_wp2
  go_loop [1, 5] (fun x i => x = .int .i64 q ∧ i = .int .i64 0) (fun _ _ => 0)
  case atStart => exact ⟨rfl, rfl⟩
  case round =>
    obtain ⟨rfl, rfl⟩ := hrel
    go_wp2
    go_ret
    exact ⟨rfl, Below.refl _ _⟩
theorem held_ints_nil (w : World) (q : Int) :
    Calls Try.prog 90 #[.slice none 0 0, .int .i64 q] w fun e w' => e = .returned (.int .i64 q) ∧ Below w.heap.size w w' := by
  go_enter Try.func90, Try.ntmps90
  go_wp2
  go_loop [1, 5] (fun x i => x = .int .i64 q ∧ i = .int .i64 0) (fun _ _ => 0)
  case atStart => exact ⟨rfl, rfl⟩
  case round =>
    obtain ⟨rfl, rfl⟩ := hrel
    go_wp2
    go_ret
    exact ⟨rfl, Below.refl _ _⟩
end Go.Proofs.Ythjajgpejfoghab
