/- DrawEncodeHex gives a string and leaves what was there. -/
import Derived.Test.YtcflfpdcphkoeaaDoorDrawText
namespace Go.Proofs.YtcflfpdcphkoeaaDoor
open Go.RowKit

def StrPost (n : Nat) (w : World) (e : Ending) (w' : World) : Prop :=
  ∃ s : ByteArray, s.size ≤ n ∧ e = .returned (.string s) ∧ Below w.heap.size w w'

set_option maxHeartbeats 1000000 in
set_option maxRecDepth 100000 in
theorem draw_encode (A : Option Addr) (len cap : Nat) (w : World) (hcode : Code w w.heap.size A len) :
    Calls Tryd.prog 9 #[.slice A len cap] w (StrPost 20001 w) := by
  have HC := Lib.hid hcode
  clear hcode
  go_enter Tryd.func9, Tryd.ntmps9
  go_wp2_with fail
  refine (new_any A len cap _ HC.out).mono ?_
  rintro e w1 ⟨rfl, hc1, hb1⟩
  have hz := hb1.size
  go_wp2_with fail
  refine (once_any 60 _ _ A len cap _ hc1 (by omega) (by omega)).mono ?_
  rintro e w2 ⟨b, rfl, hc2, hg2⟩
  have hb2 := below_of_cur hb1 hz hg2 (Nat.le_refl _)
  clear hg2
  cases b
  · go_wp2_with fail
    refine (below_any 30 _ _ A len cap _ hc2 (by omega) (by omega)).mono ?_
    rintro e w3 ⟨x, x0, x1, rfl, hc3, hg3⟩
    have hb3 := below_of_cur hb2 hb2.size hg3 (Nat.le_refl _)
    clear hg3
    obtain ⟨n, rfl⟩ : ∃ n : Nat, x = n := ⟨x.toNat, by omega⟩
    go_wp2_with fail
    refine (text_any n _ _ A len cap _ hc3 (by omega)).mono ?_
    rintro e w4 ⟨s, hs, rfl, hc4, hg4⟩
    have hb4 := below_of_cur hb3 hb3.size hg4 (Nat.le_refl _)
    clear hg4
    have hs' : s.size ≤ 20001 := by omega
    clear hs
    go_wp2
    go_ret
    exact ⟨s, hs', rfl, hb4⟩
  · go_wp2_with fail
    refine (below_any 2 _ _ A len cap _ hc2 (by omega) (by omega)).mono ?_
    rintro e w3 ⟨x, x0, x1, rfl, hc3, hg3⟩
    have hb3 := below_of_cur hb2 hb2.size hg3 (Nat.le_refl _)
    clear hg3
    obtain ⟨n, rfl⟩ : ∃ n : Nat, x = n := ⟨x.toNat, by omega⟩
    go_wp2_with fail
    rw [show (20000 : Int) + (n : Int) = ((20000 + n : Nat) : Int) from by omega]
    refine (long_any (20000 + n) 200 _ (by omega)).mono ?_
    rintro e w4 ⟨s, hs, rfl, hb4⟩
    have hs' : s.size ≤ 20001 := by omega
    clear hs
    go_wp2
    go_ret
    exact ⟨s, hs', rfl, hb3.trans (hb4.mono hb3.size)⟩

end Go.Proofs.YtcflfpdcphkoeaaDoor
