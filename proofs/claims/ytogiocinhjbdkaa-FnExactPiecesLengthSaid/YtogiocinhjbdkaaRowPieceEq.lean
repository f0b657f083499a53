/- eqPieceS of equal rows. -/
import Derived.Test.YtogiocinhjbdkaaRowPieceDef
import Derived.Test.YtogiocinhjbdkaaEqPiece
import Derived.StillTailTactics
namespace Go.Proofs.Ytogiocinhjbdkaa
open Go.RowKit
set_option linter.unusedSimpArgs false
set_option linter.unusedVariables false

set_option maxHeartbeats 4000000 in
set_option maxRecDepth 100000 in
theorem eq_piece_view (w : World) (a1 a2 : Option Addr) (g1 g2 c1 c2 : Nat) (l : List PieceM) (hn : l.length ≤ 4194304) (h1 : View w a1 g1 2 (l.map PieceM.arr)) (h2 : View w a2 g2 2 (l.map PieceM.arr)) :
    Calls Try.prog 20 #[.slice a1 l.length c1, .slice a2 l.length c2] w fun e w' => e = .returned (.bool true) ∧ Below w.heap.size w w' := by
  obtain ⟨n, hl⟩ : ∃ n, n = l.length := ⟨_, rfl⟩
  rw [← hl] at hn ⊢
  have HL := Lib.hid hl
  have H1 := Lib.hid h1
  have H2 := Lib.hid h2
  clear h1 h2 hl
  go_enter Try.func20, Try.ntmps20
  go_wp2
  go_loopw [5] (fun i wr => ∃ k : Nat, k ≤ n ∧ i = .int .i64 k ∧ Hid (Below w.heap.size w wr)) (fun i _ => n + 1 - (intOf i).toNat)
  case atStart => exact ⟨0, by omega, rfl, Lib.hid (Below.refl _ _)⟩
  case round =>
    obtain ⟨k, hk, rfl, HB⟩ := hrel
    by_cases hlt : k < n
    · have hk' : k < l.length := by have := HL.out; omega
      have hne : l.map PieceM.arr ≠ [] := fun e => by simp at e; rw [e] at hk'; simp at hk'
      have b1 := H1.out.later HB.out
      have b2 := H2.out.later HB.out
      obtain ⟨ea1, eg1⟩ := b1.1 hne
      obtain ⟨ea2, eg2⟩ := b2.1 hne
      subst ea1
      subst ea2
      have x1 := b1.2 k l[k].arr (by simp [hk'])
      have x2 := b2.2 k l[k].arr (by simp [hk'])
      clear b1 b2 hne
      generalize l[k] = e at x1 x2
      have HE := Lib.hid fun W => eq_piece e W
      obtain ⟨y0, y1⟩ := e
      unfold PieceM.arr PieceM.val at *
      have d1_0 := x1 0 (by omega)
      have d1_1 := x1 1 (by omega)
      have d2_0 := x2 0 (by omega)
      have d2_1 := x2 1 (by omega)
      clear x1 x2
      simp at d1_0 d2_0 d1_1 d2_1
      have e1 : (k : Int) < (n : Int) := by omega
      have e0 : (0 : Int) ≤ (k : Int) := by omega
      go_wp2
      go_still_tail 8, (by kernel_rfl)
      change wpList _ _ _ _ _ wr.drew
      go_wp2_with (go_at_call 87; refine (HE.out _).mono ?_; rintro e w1 ⟨rfl, hb1⟩)
      go_roundw
      case rel => exact ⟨k + 1, by omega, by go_num, Lib.hid (below_comp HB.out (below_comp below_drew hb1))⟩
      case measure => simp [intOf]; omega
    · obtain rfl : k = n := by omega
      go_wp2
      go_ret
      exact ⟨rfl, HB.out⟩
theorem eq_pieces (w : World) (S1 S2 : Nat → Prop) (T1 T2 : TypeId) (v1 v2 : Value) (l : List PieceM) (hn : l.length ≤ 4194304) (h1 : Row w S1 T1 2 v1 (l.map PieceM.arr)) (h2 : Row w S2 T2 2 v2 (l.map PieceM.arr)) :
    Calls Try.prog 20 #[v1, v2] w fun e w' => e = .returned (.bool true) ∧ Below w.heap.size w w' := by
  obtain ⟨a1, g1, c1, rfl, x1, _⟩ := h1.open
  obtain ⟨a2, g2, c2, rfl, x2, _⟩ := h2.open
  rw [List.length_map]
  exact eq_piece_view w a1 a2 g1 g2 c1 c2 l hn x1 x2
end Go.Proofs.Ytogiocinhjbdkaa
