/- The program's Get32. -/
import Derived.Test.YtfbnjemmmgobkaaGet16Impl
namespace Go.Proofs.Ytfbnjemmmgobkaa
open Go.RowKit

theorem impl_get32 (s : ByteArray) (p : Int) (w : World) (hs : s.size ≤ maxLen) (hp : -9223372036854775808 ≤ p ∧ p ≤ 9223372036854775807) :
    Calls Try.prog 151 #[.string s, .int .i64 p] w fun e w' => e = .returned (.int .i64 (get32 s p)) ∧ ∃ m, w' = w.drewN m := by
  have HM := Lib.hid hs
  unfold maxLen at hs
  by_cases h : 0 ≤ p ∧ p + 4 ≤ s.size
  · obtain ⟨n, rfl⟩ : ∃ n : Nat, p = n := ⟨p.toNat, by omega⟩
    have HG : Hid (get32 s n = get16 s n * 65536 + get16 s ((n : Int) + 2)) := Lib.hid (by unfold get32; rw [if_pos h])
    have b1 := get16_bd s n (by omega)
    have b2 := get16_bd s (n + 2) (by omega)
    rw [show ((n + 2 : Nat) : Int) = (n : Int) + 2 from by omega] at b2
    have eo := or_16 _ _ b1 b2
    have c0 : (0 : Int) ≤ (n : Int) := by omega
    have c1 : (n : Int) ≤ (s.size : Int) - 4 := by omega
    go_enter Try.func151, Try.ntmps151
    go_wp2_with (first
      | (go_at_call 179; with_reducible refine (impl_get16 _ _ _ HM.out (by omega)).mono ?_; rintro e w' ⟨rfl, m, rfl⟩)
      | go_in)
    go_ret
    exact ⟨by rw [HG.out]; rfl, _, rfl⟩
  · have HG : Hid (get32 s p = -1) := Lib.hid (by unfold get32; rw [if_neg h])
    by_cases h0 : 0 ≤ p
    · have h2 : ¬ p ≤ (s.size : Int) - 4 := by omega
      clear h
      go_enter Try.func151, Try.ntmps151
      go_wp2
      go_ret
      exact ⟨by rw [HG.out]; rfl, 0, rfl⟩
    · clear h
      go_enter Try.func151, Try.ntmps151
      go_wp2
      go_ret
      exact ⟨by rw [HG.out]; rfl, 0, rfl⟩
theorem impl_get32_any (s : ByteArray) (p : Int) (w : World) (hs : s.size ≤ maxLen) (hp : -9223372036854775808 ≤ p ∧ p ≤ 9223372036854775807) :
    Calls Try.prog 151 #[.string s, .int .i64 p] w fun e w' => e = .returned (.int .i64 (get32 s p)) ∧ Below w.heap.size w w' :=
  (impl_get32 s p w hs hp).mono fun _ _ ⟨h1, m, h2⟩ => ⟨h1, h2 ▸ below_of_drewN w m⟩

end Go.Proofs.Ytfbnjemmmgobkaa
