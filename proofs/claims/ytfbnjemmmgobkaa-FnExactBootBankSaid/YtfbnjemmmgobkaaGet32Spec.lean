/- The model's Get32. -/
import Derived.Test.YtfbnjemmmgobkaaGet16Spec
namespace Go.Proofs.Ytfbnjemmmgobkaa
open Go.RowKit

theorem spec_get32 (s : ByteArray) (p : Int) (w : World) (hs : s.size ≤ maxLen) (hp : -9223372036854775808 ≤ p ∧ p ≤ 9223372036854775807) :
    Calls Try.prog 149 #[.string s, .int .i64 p] w fun e w' => e = .returned (.int .i64 (get32 s p)) ∧ ∃ m, w' = w.drewN m := by
  have HM := Lib.hid hs
  unfold maxLen at hs
  by_cases h : 0 ≤ p ∧ p + 4 ≤ s.size
  · obtain ⟨n, rfl⟩ : ∃ n : Nat, p = n := ⟨p.toNat, by omega⟩
    have HG : Hid (get32 s n = get16 s n * 65536 + get16 s ((n : Int) + 2)) := Lib.hid (by unfold get32; rw [if_pos h])
    have b1 := get16_bd s n (by omega)
    have b2 := get16_bd s (n + 2) (by omega)
    rw [show ((n + 2 : Nat) : Int) = (n : Int) + 2 from by omega] at b2
    have c1 : (n : Int) ≤ (s.size : Int) := by omega
    have c2 : 4 ≤ (s.size : Int) - (n : Int) := by omega
    go_enter Try.func149, Try.ntmps149
    go_wp2_with (first
      | (go_at_call 176; with_reducible refine (spec_get16 _ _ _ HM.out (by omega)).mono ?_; rintro e w' ⟨rfl, m, rfl⟩)
      | go_in)
    go_ret
    exact ⟨by rw [HG.out]; rfl, _, rfl⟩
  · have HG : Hid (get32 s p = -1) := Lib.hid (by unfold get32; rw [if_neg h])
    by_cases h0 : 0 ≤ p
    · by_cases h1 : p ≤ (s.size : Int)
      · have h2 : ¬ 4 ≤ (s.size : Int) - p := by omega
        clear h
        go_enter Try.func149, Try.ntmps149
        go_wp2
        go_ret
        exact ⟨by rw [HG.out]; rfl, 0, rfl⟩
      · clear h
        go_enter Try.func149, Try.ntmps149
        go_wp2
        go_ret
        exact ⟨by rw [HG.out]; rfl, 0, rfl⟩
    · clear h
      go_enter Try.func149, Try.ntmps149
      go_wp2
      go_ret
      exact ⟨by rw [HG.out]; rfl, 0, rfl⟩

end Go.Proofs.Ytfbnjemmmgobkaa
