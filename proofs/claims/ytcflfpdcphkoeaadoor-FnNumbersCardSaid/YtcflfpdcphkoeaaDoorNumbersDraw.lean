/- DrawFormatInt gives a number and leaves what was there. -/
import Derived.Test.YtcflfpdcphkoeaaDoorDraw
namespace Go.Proofs.YtcflfpdcphkoeaaDoor
open Go.RowKit

def OnePost (w : World) (e : Ending) (w' : World) : Prop :=
  ∃ n : Int, (-9223372036854775808 ≤ n ∧ n ≤ 9223372036854775807) ∧ e = .returned (.int .i64 n) ∧ Below w.heap.size w w'

theorem wrap64_bd (x : Int) : -9223372036854775808 ≤ wrap64 x ∧ wrap64 x ≤ 9223372036854775807 := by unfold wrap64; omega

set_option maxHeartbeats 1000000 in
set_option maxRecDepth 100000 in
theorem draw_format (A : Option Addr) (len cap : Nat) (w : World) (hcode : Code w w.heap.size A len) :
    Calls Tryd.prog 13 #[.slice A len cap] w (OnePost w) := by
  have HC := Lib.hid hcode
  clear hcode
  go_enter Tryd.func13, Tryd.ntmps13
  go_wp2_with fail
  refine (new_any A len cap _ HC.out).mono ?_
  rintro e w1 ⟨rfl, hc1, hb1⟩
  have hz := hb1.size
  go_wp2_with fail
  refine (once_any 3 _ _ A len cap _ hc1 (by omega) (by omega)).mono ?_
  rintro e w2 ⟨b, rfl, hc2, hg2⟩
  have hb2 := below_of_cur hb1 hz hg2 (Nat.le_refl _)
  clear hg2
  cases b
  · go_wp2_with fail
    refine (number_any _ _ A len cap _ hc2).mono ?_
    rintro e w3 ⟨x, hx, rfl, hc3, hg3⟩
    have hb3 := below_of_cur hb2 hb2.size hg3 (Nat.le_refl _)
    clear hg3
    go_wp2
    go_ret
    exact ⟨x, hx, rfl, hb3⟩
  · go_wp2_with fail
    refine (below_any 1000000 _ _ A len cap _ hc2 (by omega) (by omega)).mono ?_
    rintro e w3 ⟨x, x0, x1, rfl, hc3, hg3⟩
    have hb3 := below_of_cur hb2 hb2.size hg3 (Nat.le_refl _)
    clear hg3
    go_wp2_with fail
    refine (below_any 2000000 _ _ A len cap _ hc3 (by omega) (by omega)).mono ?_
    rintro e w4 ⟨y, y0, y1, rfl, hc4, hg4⟩
    have hb4 := below_of_cur hb3 hb3.size hg4 (Nat.le_refl _)
    clear hg4
    go_wp2
    go_ret
    exact ⟨_, wrap64_bd _, rfl, hb4⟩

end Go.Proofs.YtcflfpdcphkoeaaDoor
