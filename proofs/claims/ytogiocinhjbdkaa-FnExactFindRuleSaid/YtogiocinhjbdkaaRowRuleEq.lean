/- eqRuleS of equal rows. -/
import Derived.Test.YtogiocinhjbdkaaRowRuleDef
import Derived.Test.YtogiocinhjbdkaaEqRule
import Derived.StillTailTactics
namespace Go.Proofs.Ytogiocinhjbdkaa
open Go.RowKit
set_option linter.unusedSimpArgs false
set_option linter.unusedVariables false

set_option maxHeartbeats 4000000 in
set_option maxRecDepth 100000 in
theorem eq_rule_view (w : World) (a1 a2 : Option Addr) (g1 g2 c1 c2 : Nat) (l : List RuleM) (hn : l.length ≤ 4194304) (h1 : View w a1 g1 9 (l.map RuleM.arr)) (h2 : View w a2 g2 9 (l.map RuleM.arr)) :
    Calls Try.prog 27 #[.slice a1 l.length c1, .slice a2 l.length c2] w fun e w' => e = .returned (.bool true) ∧ Below w.heap.size w w' := by
  obtain ⟨n, hl⟩ : ∃ n, n = l.length := ⟨_, rfl⟩
  rw [← hl] at hn ⊢
  have HL := Lib.hid hl
  have H1 := Lib.hid h1
  have H2 := Lib.hid h2
  clear h1 h2 hl
  go_enter Try.func27, Try.ntmps27
  go_wp2
  go_loopw [5] (fun i wr => ∃ k : Nat, k ≤ n ∧ i = .int .i64 k ∧ Hid (Below w.heap.size w wr)) (fun i _ => n + 1 - (intOf i).toNat)
  case atStart => exact ⟨0, by omega, rfl, Lib.hid (Below.refl _ _)⟩
  case round =>
    obtain ⟨k, hk, rfl, HB⟩ := hrel
    by_cases hlt : k < n
    · have hk' : k < l.length := by have := HL.out; omega
      have hne : l.map RuleM.arr ≠ [] := fun e => by simp at e; rw [e] at hk'; simp at hk'
      have b1 := H1.out.later HB.out
      have b2 := H2.out.later HB.out
      obtain ⟨ea1, eg1⟩ := b1.1 hne
      obtain ⟨ea2, eg2⟩ := b2.1 hne
      subst ea1
      subst ea2
      have x1 := b1.2 k l[k].arr (by simp [hk'])
      have x2 := b2.2 k l[k].arr (by simp [hk'])
      clear b1 b2 hne
      generalize l[k] = e at x1 x2
      have HE := Lib.hid fun W => eq_rule e W
      obtain ⟨y0, y1, y2, y3, y4, y5, y6, y7, y8⟩ := e
      unfold RuleM.arr RuleM.val at *
      have d1_0 := x1 0 (by omega)
      have d1_1 := x1 1 (by omega)
      have d1_2 := x1 2 (by omega)
      have d1_3 := x1 3 (by omega)
      have d1_4 := x1 4 (by omega)
      have d1_5 := x1 5 (by omega)
      have d1_6 := x1 6 (by omega)
      have d1_7 := x1 7 (by omega)
      have d1_8 := x1 8 (by omega)
      have d2_0 := x2 0 (by omega)
      have d2_1 := x2 1 (by omega)
      have d2_2 := x2 2 (by omega)
      have d2_3 := x2 3 (by omega)
      have d2_4 := x2 4 (by omega)
      have d2_5 := x2 5 (by omega)
      have d2_6 := x2 6 (by omega)
      have d2_7 := x2 7 (by omega)
      have d2_8 := x2 8 (by omega)
      clear x1 x2
      simp at d1_0 d2_0 d1_1 d2_1 d1_2 d2_2 d1_3 d2_3 d1_4 d2_4 d1_5 d2_5 d1_6 d2_6 d1_7 d2_7 d1_8 d2_8
      have e1 : (k : Int) < (n : Int) := by omega
      have e0 : (0 : Int) ≤ (k : Int) := by omega
      go_wp2
      go_still_tail 8, (by kernel_rfl)
      change wpList _ _ _ _ _ wr.drew
      go_wp2_with (go_at_call 94; refine (HE.out _).mono ?_; rintro e w1 ⟨rfl, hb1⟩)
      go_roundw
      case rel => exact ⟨k + 1, by omega, by go_num, Lib.hid (below_comp HB.out (below_comp below_drew hb1))⟩
      case measure => simp [intOf]; omega
    · obtain rfl : k = n := by omega
      go_wp2
      go_ret
      exact ⟨rfl, HB.out⟩
theorem eq_rules (w : World) (S1 S2 : Nat → Prop) (T1 T2 : TypeId) (v1 v2 : Value) (l : List RuleM) (hn : l.length ≤ 4194304) (h1 : Row w S1 T1 9 v1 (l.map RuleM.arr)) (h2 : Row w S2 T2 9 v2 (l.map RuleM.arr)) :
    Calls Try.prog 27 #[v1, v2] w fun e w' => e = .returned (.bool true) ∧ Below w.heap.size w w' := by
  obtain ⟨a1, g1, c1, rfl, x1, _⟩ := h1.open
  obtain ⟨a2, g2, c2, rfl, x2, _⟩ := h2.open
  rw [List.length_map]
  exact eq_rule_view w a1 a2 g1 g2 c1 c2 l hn x1 x2
end Go.Proofs.Ytogiocinhjbdkaa
