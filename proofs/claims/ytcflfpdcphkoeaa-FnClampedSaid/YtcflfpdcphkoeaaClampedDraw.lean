/- DrawClamp gives three numbers and leaves what was there. -/
import Derived.Test.YtcflfpdcphkoeaaDraw
namespace Go.Proofs.Ytcflfpdcphkoeaa
open Go.RowKit

def ThreePost (w : World) (e : Ending) (w' : World) : Prop :=
  ∃ n a b : Int, e = .returned (.tuple #[.int .i64 n, .int .i64 a, .int .i64 b]) ∧ Below w.heap.size w w'

theorem below_of_cur {B g : Nat} {w0 w w' : World} (hb : Below B w0 w) (hB : B ≤ w.heap.size) (hg : w.grownBy w' (some g)) (hlo : B ≤ g) : Below B w0 w' :=
  hb.grown hg hB (fun k hk => by injection hk with hk; omega)

set_option maxHeartbeats 1000000 in
set_option maxRecDepth 100000 in
theorem draw_clamp (A : Option Addr) (len cap : Nat) (w : World) (hcode : Code w w.heap.size A len) :
    Calls Try.prog 9 #[.slice A len cap] w (ThreePost w) := by
  have HC := Lib.hid hcode
  clear hcode
  go_enter Try.func9, Try.ntmps9
  go_wp2_with fail
  refine (new_any A len cap _ HC.out).mono ?_
  rintro e w1 ⟨rfl, hc1, hb1⟩
  have hz := hb1.size
  go_wp2_with fail
  refine (once_any 4 _ _ A len cap _ hc1 (by omega) (by omega)).mono ?_
  rintro e w2 ⟨b, rfl, hc2, hg2⟩
  have hb2 := below_of_cur hb1 hz hg2 (Nat.le_refl _)
  clear hg2
  cases b
  · go_wp2_with fail
    refine (below_any 40 _ _ A len cap _ hc2 (by omega) (by omega)).mono ?_
    rintro e w3 ⟨x, x0, x1, rfl, hc3, hg3⟩
    have hb3 := below_of_cur hb2 hb2.size hg3 (Nat.le_refl _)
    clear hg3
    go_wp2_with fail
    refine (below_any 80 _ _ A len cap _ hc3 (by omega) (by omega)).mono ?_
    rintro e w4 ⟨y, y0, y1, rfl, hc4, hg4⟩
    have hb4 := below_of_cur hb3 hb3.size hg4 (Nat.le_refl _)
    clear hg4
    go_wp2_with fail
    refine (below_any 30 _ _ A len cap _ hc4 (by omega) (by omega)).mono ?_
    rintro e w5 ⟨z, z0, z1, rfl, hc5, hg5⟩
    have hb5 := below_of_cur hb4 hb4.size hg5 (Nat.le_refl _)
    clear hg5
    go_wp2
    go_ret3
    exact ⟨_, _, _, rfl, hb5⟩
  · go_wp2_with fail
    refine (number_any _ _ A len cap _ hc2).mono ?_
    rintro e w3 ⟨x, hx, rfl, hc3, hg3⟩
    have hb3 := below_of_cur hb2 hb2.size hg3 (Nat.le_refl _)
    clear hg3
    go_wp2_with fail
    refine (number_any _ _ A len cap _ hc3).mono ?_
    rintro e w4 ⟨y, hy, rfl, hc4, hg4⟩
    have hb4 := below_of_cur hb3 hb3.size hg4 (Nat.le_refl _)
    clear hg4
    go_wp2_with fail
    refine (number_any _ _ A len cap _ hc4).mono ?_
    rintro e w5 ⟨z, hz', rfl, hc5, hg5⟩
    have hb5 := below_of_cur hb4 hb4.size hg5 (Nat.le_refl _)
    clear hg5
    go_wp2
    go_ret3
    exact ⟨_, _, _, rfl, hb5⟩

end Go.Proofs.Ytcflfpdcphkoeaa
