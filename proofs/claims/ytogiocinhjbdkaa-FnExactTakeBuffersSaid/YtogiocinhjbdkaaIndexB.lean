/- Index and Contains over a row of ints. -/
import Derived.Test.YtogiocinhjbdkaaIntRowDef
import Derived.Deep.QuietTactic
import Derived.BigQuiet
namespace Go.Proofs.Ytogiocinhjbdkaa
open Go.RowKit
set_option linter.unusedSimpArgs false
set_option linter.unusedVariables false

/-- Does x stand among the first n numbers. -/
def hasB (f : Nat → Int) (n : Nat) (x : Int) : Bool := decide (∃ j : Nat, j < n ∧ f j = x)
theorem hasB_succ (f : Nat → Int) (n : Nat) (x : Int) (h : ¬ f n = x) : hasB f (n + 1) x = hasB f n x := by
  unfold hasB
  refine decide_eq_decide.2 ⟨fun ⟨j, hj, e⟩ => ?_, fun ⟨j, hj, e⟩ => ⟨j, by omega, e⟩⟩
  rcases Nat.lt_succ_iff_lt_or_eq.1 hj with hlt | rfl
  · exact ⟨j, hlt, e⟩
  · exact absurd e h
def IdxAt (f : Nat → Int) (n : Nat) (x r : Int) : Prop := (r = -1 ∧ hasB f n x = false) ∨ ∃ k : Nat, r = k ∧ k < n ∧ f k = x ∧ ∀ j : Nat, j < k → ¬ f j = x
theorem IdxAt.has {f : Nat → Int} {n : Nat} {x r : Int} (h : IdxAt f n x r) : hasB f n x = decide (0 ≤ r) := by
  rcases h with ⟨rfl, h⟩ | ⟨k, rfl, h1, h2, _⟩
  · rw [h]; rfl
  · rw [decide_eq_true (by omega)]; exact decide_eq_true ⟨k, h1, h2⟩
def IdxOf (f : Nat → Int) (n : Nat) (x : Int) (w : World) (e : Ending) (w' : World) : Prop := ∃ r, e = .returned (.int .i64 r) ∧ IdxAt f n x r ∧ Below w.heap.size w w'

set_option maxHeartbeats 4000000 in
set_option maxRecDepth 100000 in
theorem index_ints (w : World) (a : Option Addr) (g n c : Nat) (f : Nat → Int) (x : Int) (hn : n ≤ 4194304) (ha : 0 < n → a = some ⟨g, 0, none⟩) (h : ∀ j, j < n → w.cell? ⟨g, j, none⟩ = some (.int .i64 (f j))) :
    Calls Try.prog 113 #[.slice a n c, .int .i64 x] w (IdxOf f n x w) := by
  have H := Lib.hid h
  have HA := Lib.hid ha
  clear h ha
  go_enter Try.func113, Try.ntmps113
  go_wp2
  go_loop [8] (fun i => ∃ k : Nat, k ≤ n ∧ i = .int .i64 k ∧ Hid (∀ j : Nat, j < k → ¬ f j = x)) (fun i => n + 1 - (intOf i).toNat)
  case atStart => exact ⟨0, by omega, rfl, Lib.hid fun j hj => by omega⟩
  case round =>
    obtain ⟨k, hk, rfl, HK⟩ := hrel
    by_cases hlt : k < n
    · have ea := HA.out (by omega)
      subst ea
      have d1 : w.cell? ⟨g, k, none⟩ = some (.int .i64 (f k)) := H.out k hlt
      have e1 : (k : Int) < (n : Int) := by omega
      have e0 : (0 : Int) ≤ (k : Int) := by omega
      by_cases hg : f k = x
      · have HR := Lib.hid (show IdxAt f n x k from .inr ⟨k, rfl, hlt, hg, HK.out⟩)
        have hx : (x == f k) = true := by simp [hg]
        clear hg
        go_wp2
        go_ret
        exact ⟨_, rfl, HR.out, Below.refl _ _⟩
      · have HK2 : Hid (∀ j : Nat, j < k + 1 → ¬ f j = x) := Lib.hid fun j hj => by
          rcases Nat.lt_succ_iff_lt_or_eq.1 hj with h | h
          · exact HK.out j h
          · exact h ▸ hg
        have hx : (x == f k) = false := by simpa using fun e => hg e.symm
        have hx2 : ¬ x = f k := fun e => hg e.symm
        clear hg
        go_wp2
        go_round
        case rel => exact ⟨k + 1, by omega, by go_num, HK2⟩
        case measure => simp [intOf]; omega
    · obtain rfl : k = n := by omega
      have HR := Lib.hid (show IdxAt f k x (-1) from .inl ⟨rfl, decide_eq_false fun ⟨j, hj, e⟩ => HK.out j hj e⟩)
      go_wp2
      go_ret
      exact ⟨_, rfl, HR.out, Below.refl _ _⟩

set_option maxHeartbeats 4000000 in
set_option maxRecDepth 100000 in
theorem contains_ints (w : World) (a : Option Addr) (g n c : Nat) (f : Nat → Int) (x : Int) (hn : n ≤ 4194304) (ha : 0 < n → a = some ⟨g, 0, none⟩) (h : ∀ j, j < n → w.cell? ⟨g, j, none⟩ = some (.int .i64 (f j))) :
    Calls Try.prog 131 #[.slice a n c, .int .i64 x] w fun e w' => e = .returned (.bool (hasB f n x)) ∧ Below w.heap.size w w' := by
  have HX := Lib.hid (index_ints w a g n c f x hn ha h)
  clear h ha
  go_enter Try.func131, Try.ntmps131
  go_wp2_with fail
  refine HX.out.mono ?_
  rintro e w1 ⟨r, rfl, hr, hb⟩
  have HR := Lib.hid hr.has
  clear hr
  go_wp2
  go_ret
  exact ⟨ret_bool HR.out.symm, hb⟩

set_option maxHeartbeats 4000000 in
set_option maxRecDepth 100000 in
theorem index_free (w : World) (a : Option Addr) (g n c : Nat) (f : Nat → Int) (x : Int) (hn : n ≤ 4194304) (ha : 0 < n → a = some ⟨g, 0, none⟩) (h : ∀ j, j < n → w.cell? ⟨g, j, none⟩ = some (.int .i64 (f j))) :
    Calls Try.prog 177 #[.slice a n c, .int .i64 x] w (IdxOf f n x w) := by
  have H := Lib.hid h
  have HA := Lib.hid ha
  clear h ha
  go_enter Try.func177, Try.ntmps177
  go_wp2
  go_loop [8] (fun i => ∃ k : Nat, k ≤ n ∧ i = .int .i64 k ∧ Hid (∀ j : Nat, j < k → ¬ f j = x)) (fun i => n + 1 - (intOf i).toNat)
  case atStart => exact ⟨0, by omega, rfl, Lib.hid fun j hj => by omega⟩
  case round =>
    obtain ⟨k, hk, rfl, HK⟩ := hrel
    by_cases hlt : k < n
    · have ea := HA.out (by omega)
      subst ea
      have d1 : w.cell? ⟨g, k, none⟩ = some (.int .i64 (f k)) := H.out k hlt
      have e1 : (k : Int) < (n : Int) := by omega
      have e0 : (0 : Int) ≤ (k : Int) := by omega
      by_cases hg : f k = x
      · have HR := Lib.hid (show IdxAt f n x k from .inr ⟨k, rfl, hlt, hg, HK.out⟩)
        have hx : (x == f k) = true := by simp [hg]
        clear hg
        go_wp2
        go_ret
        exact ⟨_, rfl, HR.out, Below.refl _ _⟩
      · have HK2 : Hid (∀ j : Nat, j < k + 1 → ¬ f j = x) := Lib.hid fun j hj => by
          rcases Nat.lt_succ_iff_lt_or_eq.1 hj with h | h
          · exact HK.out j h
          · exact h ▸ hg
        have hx : (x == f k) = false := by simpa using fun e => hg e.symm
        have hx2 : ¬ x = f k := fun e => hg e.symm
        clear hg
        go_wp2
        go_round
        case rel => exact ⟨k + 1, by omega, by go_num, HK2⟩
        case measure => simp [intOf]; omega
    · obtain rfl : k = n := by omega
      have HR := Lib.hid (show IdxAt f k x (-1) from .inl ⟨rfl, decide_eq_false fun ⟨j, hj, e⟩ => HK.out j hj e⟩)
      go_wp2
      go_ret
      exact ⟨_, rfl, HR.out, Below.refl _ _⟩

set_option maxHeartbeats 4000000 in
set_option maxRecDepth 100000 in
theorem contains_free (w : World) (a : Option Addr) (g n c : Nat) (f : Nat → Int) (x : Int) (hn : n ≤ 4194304) (ha : 0 < n → a = some ⟨g, 0, none⟩) (h : ∀ j, j < n → w.cell? ⟨g, j, none⟩ = some (.int .i64 (f j))) :
    Calls Try.prog 169 #[.slice a n c, .int .i64 x] w fun e w' => e = .returned (.bool (hasB f n x)) ∧ Below w.heap.size w w' := by
  have HX := Lib.hid (index_free w a g n c f x hn ha h)
  clear h ha
  go_enter Try.func169, Try.ntmps169
  go_wp2_with fail
  refine HX.out.mono ?_
  rintro e w1 ⟨r, rfl, hr, hb⟩
  have HR := Lib.hid hr.has
  clear hr
  go_wp2
  go_ret
  exact ⟨ret_bool HR.out.symm, hb⟩

end Go.Proofs.Ytogiocinhjbdkaa
