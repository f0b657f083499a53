/- DrawData gives a string of at most 40 bytes; the numbers that a law takes out of its code. -/
import Derived.Test.YtnihigfpaalmgaaDrawText
namespace Go.Proofs.Ytnihigfpaalmgaa
open Go.RowKit

def DataPost (w : World) (e : Ending) (w' : World) : Prop := ∃ s : ByteArray, s.size ≤ 40 ∧ e = .returned (.string s) ∧ Below w.heap.size w w'

set_option maxHeartbeats 1000000 in
set_option maxRecDepth 100000 in
theorem data_any (B0 : Nat) (A : Option Addr) (len cap : Nat) (w : World) (hc : Cur w B0 B0 A len cap) :
    Calls Try.prog 47 #[.pointer (some ⟨B0, 0, none⟩)] w fun e w' => ∃ s : ByteArray, s.size ≤ 40 ∧ e = .returned (.string s) ∧ Cur w' B0 B0 A len cap ∧ Below B0 w w' := by
  have HC := Lib.hid hc
  have hlt := hc.lt
  clear hc
  go_enter Try.func47, Try.ntmps47
  go_wp2_with fail
  refine (once_any 4 _ _ A len cap _ HC.out (by omega) (by omega)).mono ?_
  rintro e w1 ⟨b, rfl, hc1, hg1⟩
  have hb1 : Below B0 w w1 := below_of_cur (Below.refl _ _) (by omega) hg1 (Nat.le_refl _)
  have z1 := hb1.size
  clear hg1
  cases b
  · go_wp2_with fail
    refine (below_any 30 _ _ A len cap _ hc1 (by omega) (by omega)).mono ?_
    rintro e w2 ⟨x, x0, x1, rfl, hc2, hg2⟩
    have hb2 : Below B0 w w2 := below_of_cur hb1 (by omega) hg2 (Nat.le_refl _)
    have z2 := hb2.size
    clear hg2
    obtain ⟨n, hn, rfl⟩ : ∃ n : Nat, n < 30 ∧ x = n := ⟨x.toNat, by omega, by omega⟩
    go_wp2_with fail
    refine (text_any n _ _ A len cap _ hc2 (by omega)).mono ?_
    rintro e w3 ⟨s, hs, rfl, hc3, hg3⟩
    have hb3 : Below B0 w w3 := below_of_cur hb2 (by omega) hg3 (Nat.le_refl _)
    clear hg3
    have hs' : s.size ≤ 40 := by omega
    clear hs
    go_wp2
    go_ret
    exact ⟨s, hs', rfl, hc3, hb3⟩
  · go_wp2_with fail
    refine (below_any 12 _ _ A len cap _ hc1 (by omega) (by omega)).mono ?_
    rintro e w2 ⟨x, x0, x1, rfl, hc2, hg2⟩
    have hb2 : Below B0 w w2 := below_of_cur hb1 (by omega) hg2 (Nat.le_refl _)
    have z2 := hb2.size
    clear hg2
    go_wp2_with fail
    refine (below_any 2 _ _ A len cap _ hc2 (by omega) (by omega)).mono ?_
    rintro e w3 ⟨y, y0, y1, rfl, hc3, hg3⟩
    have hb3 : Below B0 w w3 := below_of_cur hb2 (by omega) hg3 (Nat.le_refl _)
    have z3 := hb3.size
    clear hg3
    obtain ⟨n, hn, rfl⟩ : ∃ n : Nat, n < 12 ∧ x = n := ⟨x.toNat, by omega, by omega⟩
    obtain ⟨c, hc⟩ : ∃ c : UInt8, 255 * y = (c.toNat : Int) := ⟨UInt8.ofNat (255 * y).toNat, by rw [UInt8.toNat_ofNat']; omega⟩
    go_wp2_with fail
    try rw [hc]
    refine (long_any n c _ (by omega)).mono ?_
    rintro e w4 ⟨s, hs, rfl, hb4⟩
    have hc4 : Cur w4 B0 B0 A len cap := by
      obtain ⟨hcode, hlo, i, h, hi, hblk⟩ := hc3
      exact ⟨hcode.below (hb4.mono (by omega)), hlo, i, h, hi, (hb4.block _ (by omega)).trans hblk⟩
    have hb4' : Below B0 w w4 := hb3.trans (hb4.mono (by omega))
    have hs' : s.size ≤ 40 := by omega
    clear hs hc
    go_wp2
    go_ret
    exact ⟨s, hs', rfl, hc4, hb4'⟩

set_option maxHeartbeats 1000000 in
set_option maxRecDepth 100000 in
theorem draw_data (A : Option Addr) (len cap : Nat) (w : World) (hcode : Code w w.heap.size A len) :
    Calls Try.prog 20 #[.slice A len cap] w (DataPost w) := by
  have HC := Lib.hid hcode
  clear hcode
  go_enter Try.func20, Try.ntmps20
  go_wp2_with fail
  refine (new_any A len cap _ HC.out).mono ?_
  rintro e w1 ⟨rfl, hc1, hb1⟩
  go_wp2_with fail
  refine (data_any _ A len cap _ hc1).mono ?_
  rintro e w2 ⟨s, hs, rfl, hc2, hb2⟩
  go_wp2
  go_ret
  exact ⟨s, hs, rfl, hb1.trans hb2⟩

/-- A byte of the code. -/
theorem at_any (B : Nat) (i : Nat) (A : Option Addr) (len cap : Nat) (w : World) (hcode : Code w B A len) (hi : i ≤ 1000) :
    Calls Try.prog 25 #[.slice A len cap, .int .i64 i] w fun e w' => ∃ x : Int, (0 ≤ x ∧ x ≤ 255) ∧ e = .returned (.int .i64 x) ∧ w = w' := by
  have hl := hcode.1
  have HC := Lib.hid hcode
  clear hcode
  by_cases h0 : len = 0
  · subst h0
    go_enter Try.func25, Try.ntmps25
    go_wp2
    go_ret
    exact ⟨0, by omega, rfl, rfl⟩
  · have hp : 0 < len := by omega
    have hm : (i * 5 + 1) % len < len := Nat.mod_lt _ hp
    obtain ⟨ad, n, rfl, hxB, n0, n1, hcell⟩ := HC.out.2 ((i * 5 + 1) % len) hm
    have hk : ((i : Int) * 5 + 1) % (len : Int) = (((i * 5 + 1) % len : Nat) : Int) := by rw [Int.natCast_emod, Int.natCast_add, Int.natCast_mul]; rfl
    generalize (i * 5 + 1) % len = k at hm hcell hk
    have hl0 : ((len : Int) == 0) = false := by simpa using h0
    clear h0
    go_enter Try.func25, Try.ntmps25
    go_wp2
    go_ret
    exact ⟨n, ⟨n0, n1⟩, rfl, rfl⟩

end Go.Proofs.Ytnihigfpaalmgaa
