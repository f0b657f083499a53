/- allWithin: are all numbers of a row in a range. -/
import Derived.Test.YtogiocinhjbdkaaInBoth
import Derived.Test.YtogiocinhjbdkaaBoxes
import Derived.Deep.QuietTactic
import Derived.BigQuiet
namespace Go.Proofs.Ytogiocinhjbdkaa
open Go.RowKit
set_option linter.unusedSimpArgs false
set_option linter.unusedVariables false
/-- Are the first n numbers in the range. -/
def allB (f : Nat → Int) (n : Nat) (lo hi : Int) : Bool := decide (∀ j : Nat, j < n → lo ≤ f j ∧ f j ≤ hi)
def BadAt (f : Nat → Int) (n : Nat) (lo hi r : Int) : Prop := (r = -1 ∧ allB f n lo hi = true) ∨ (0 ≤ r ∧ allB f n lo hi = false)
def IdxPost (f : Nat → Int) (n : Nat) (lo hi : Int) (w : World) (e : Ending) (w' : World) : Prop := ∃ r, e = .returned (.int .i64 r) ∧ BadAt f n lo hi r ∧ Below w.heap.size w w'
theorem impl_aw1 (x lo hi : Int) (w : World) (g1 g2 : Nat) (h1 : w.cell? ⟨g1, 0, none⟩ = some (.int .i64 lo)) (h2 : w.cell? ⟨g2, 0, none⟩ = some (.int .i64 hi)) :
    Calls Try.prog 168 #[.int .i64 x, .pointer (some ⟨g1, 0, none⟩), .pointer (some ⟨g2, 0, none⟩)] w fun e w' => e = .returned (.bool (!decide (lo ≤ x ∧ x ≤ hi))) ∧ w = w' := by
  have HI := Lib.hid fun W => impl_in x lo hi W
  generalize decide (lo ≤ x ∧ x ≤ hi) = B at HI ⊢
  go_enter Try.func168, Try.ntmps168
  go_wp2_with (first | (go_at_call 86; refine (HI.out _).mono ?_; rintro e w' ⟨rfl, rfl⟩))
  go_ret
  exact ⟨rfl, rfl⟩
set_option maxHeartbeats 2000000 in
set_option maxRecDepth 100000 in
theorem impl_idx (w : World) (a : Option Addr) (g n c g1 g2 : Nat) (f : Nat → Int) (lo hi : Int) (hn : n ≤ 4194304) (ha : 0 < n → a = some ⟨g, 0, none⟩) (h : ∀ j, j < n → w.cell? ⟨g, j, none⟩ = some (.int .i64 (f j)))
    (h1 : w.cell? ⟨g1, 0, none⟩ = some (.int .i64 lo)) (h2 : w.cell? ⟨g2, 0, none⟩ = some (.int .i64 hi)) :
    Calls Try.prog 176 #[.slice a n c, .func (.func 168) #[] #[.pointer (some ⟨g1, 0, none⟩), .pointer (some ⟨g2, 0, none⟩)]] w (IdxPost f n lo hi w) := by
  have HF := Lib.hid fun x m => impl_aw1 x lo hi (w.drewN m) g1 g2 h1 h2
  clear h1 h2
  have H := Lib.hid h
  clear h
  have HA := Lib.hid ha
  clear ha
  go_enter Try.func176, Try.ntmps176
  go_wp2
  go_loopw [8] (fun i wr => ∃ k : Nat, k ≤ n ∧ i = .int .i64 k ∧ (∃ m, wr = w.drewN m) ∧ Hid (∀ j : Nat, j < k → lo ≤ f j ∧ f j ≤ hi)) (fun i _ => n + 1 - (intOf i).toNat)
  case atStart => exact ⟨0, by omega, rfl, ⟨0, rfl⟩, Lib.hid fun j hj => by omega⟩
  case round =>
    obtain ⟨k, hk, rfl, ⟨m, rfl⟩, HK⟩ := hrel
    by_cases hlt : k < n
    · have ea := HA.out (by omega)
      subst ea
      have d1 : (w.drewN m).cell? ⟨g, k, none⟩ = some (.int .i64 (f k)) := H.out k hlt
      have e1 : (k : Int) < (n : Int) := by omega
      have e0 : (0 : Int) ≤ (k : Int) := by omega
      have HG := Lib.hid (HF.out (f k) m)
      by_cases hg : lo ≤ f k ∧ f k ≤ hi
      · rw [decide_eq_true hg] at HG
        have HK2 : Hid (∀ j : Nat, j < k + 1 → lo ≤ f j ∧ f j ≤ hi) := Lib.hid fun j hj => by
          rcases Nat.lt_succ_iff_lt_or_eq.1 hj with h | h
          · exact HK.out j h
          · exact h ▸ hg
        clear hg
        go_wp2_with (first | (go_at_call 168; refine HG.out.mono ?_; rintro e w' ⟨rfl, rfl⟩))
        go_roundw
        case rel => exact ⟨k + 1, by omega, by go_num, ⟨_, rfl⟩, HK2⟩
        case measure => simp [intOf]; omega
      · rw [decide_eq_false hg] at HG
        have hb : allB f n lo hi = false := decide_eq_false fun hh => hg (hh k hlt)
        have HB := Lib.hid hb
        clear hg hb
        go_wp2_with (first | (go_at_call 168; refine HG.out.mono ?_; rintro e w' ⟨rfl, rfl⟩))
        go_ret
        exact ⟨_, rfl, .inr ⟨e0, HB.out⟩, below_drewM m⟩
    · obtain rfl : k = n := by omega
      have hb : allB f k lo hi = true := decide_eq_true HK.out
      have HB := Lib.hid hb
      clear hb
      go_wp2
      go_ret
      exact ⟨_, rfl, .inl ⟨rfl, HB.out⟩, below_drewM m⟩
set_option maxHeartbeats 2000000 in
set_option maxRecDepth 100000 in
theorem impl_allin (w : World) (a : Option Addr) (g n c : Nat) (f : Nat → Int) (lo hi : Int) (hn : n ≤ 4194304) (ha : 0 < n → a = some ⟨g, 0, none⟩) (h : ∀ j, j < n → w.cell? ⟨g, j, none⟩ = some (.int .i64 (f j))) :
    Calls Try.prog 148 #[.slice a n c, .int .i64 lo, .int .i64 hi] w fun e w' => e = .returned (.bool (allB f n lo hi)) ∧ Below w.heap.size w w' := by
  obtain ⟨w1, hw1⟩ : ∃ w1, w1 = (w.alloc (.cells #[.int .i64 lo] 3)).alloc (.cells #[.int .i64 hi] 3) := ⟨_, rfl⟩
  have hb1 : Below w.heap.size w w1 := hw1 ▸ below_comp (below_new _) (below_new _)
  have k1 : Box w1 w.heap.size #[.int .i64 lo] 3 := hw1 ▸ (Box.new w _ _).alloc _
  have k2 : Box w1 (w.heap.size + 1) #[.int .i64 hi] 3 := hw1 ▸ Box.newAt (by simp)
  have HX := Lib.hid (impl_idx w1 a g n c w.heap.size (w.heap.size + 1) f lo hi hn ha (fun j hj => by
      have hg := block_lt_of_cell (h j hj)
      rw [hb1.cell (p := ⟨g, j, none⟩) hg]; exact h j hj) (k1.cell 0 (by simp)) (k2.cell 0 (by simp)))
  have HW := Lib.hid hw1
  have HB1 := Lib.hid hb1
  clear k1 k2 hw1 hb1 h ha
  have HC : Hid (Calls Try.prog 167 #[.slice a n c, .func (.func 168) #[] #[.pointer (some ⟨w.heap.size, 0, none⟩), .pointer (some ⟨w.heap.size + 1, 0, none⟩)]] w1 fun e w' => e = .returned (.bool (!allB f n lo hi)) ∧ Below w1.heap.size w1 w') := Lib.hid (by
    go_enter Try.func167, Try.ntmps167
    go_wp2_with fail
    refine HX.out.mono ?_
    rintro e w2 ⟨r, rfl, hr, hb2⟩
    have HR := Lib.hid hr
    clear hr
    by_cases h0 : 0 ≤ r
    · go_wp2
      go_ret
      refine ⟨ret_bool ?_, hb2⟩
      rcases HR.out with ⟨h, _⟩ | ⟨_, h⟩
      · omega
      · rw [h]; simp <;> omega
    · go_wp2
      go_ret
      refine ⟨ret_bool ?_, hb2⟩
      rcases HR.out with ⟨_, h⟩ | ⟨h, _⟩
      · rw [h]; simp <;> omega
      · omega)
  generalize allB f n lo hi = B at HC ⊢
  go_enter Try.func148, Try.ntmps148
  go_wp2_with fail
  rw [← HW.out]
  refine HC.out.mono ?_
  rintro e w2 ⟨rfl, hb2⟩
  go_wp2
  go_ret
  exact ⟨by simp, below_comp HB1.out hb2⟩
end Go.Proofs.Ytogiocinhjbdkaa
