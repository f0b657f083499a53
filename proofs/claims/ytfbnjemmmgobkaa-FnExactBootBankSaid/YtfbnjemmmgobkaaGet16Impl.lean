/- The program's Get16. -/
import Derived.Test.YtfbnjemmmgobkaaWordsImpl
namespace Go.Proofs.Ytfbnjemmmgobkaa
open Go.RowKit

theorem impl_get16 (s : ByteArray) (p : Int) (w : World) (hs : s.size ≤ maxLen) (hp : -9223372036854775808 ≤ p ∧ p ≤ 9223372036854775807) :
    Calls Try.prog 179 #[.string s, .int .i64 p] w fun e w' => e = .returned (.int .i64 (get16 s p)) ∧ ∃ m, w' = w.drewN m := by
  unfold maxLen at hs
  by_cases h : 0 ≤ p ∧ p + 2 ≤ s.size
  · obtain ⟨n, rfl⟩ : ∃ n : Nat, p = n := ⟨p.toNat, by omega⟩
    have h1 : n + 1 < s.size := by omega
    have HG : Hid (get16 s n = (s[n].toNat : Int) * 256 + (s[n + 1].toNat : Int)) := Lib.hid (by rw [get16_in s n (by omega), byteI_at s n (by omega), byteI_at s (n + 1) h1])
    have b1 : s[n].toNat < 256 := UInt8.toNat_lt _
    have b2 : s[n + 1].toNat < 256 := UInt8.toNat_lt _
    have c1 : (n : Int) ≤ (s.size : Int) - 2 := by omega
    have c0 : (0 : Int) ≤ (n : Int) := by omega
    have eo := or_8 (s[n].toNat : Int) (s[n + 1].toNat : Int) (by omega) (by omega)
    go_enter Try.func179, Try.ntmps179
    have c3 : (n : Int) < (s.size : Int) := by omega
    have c4 : (n : Int) + 1 < (s.size : Int) := by omega
    have c5 : (0 : Int) ≤ (n : Int) + 1 := by omega
    have e1 : ((n : Int) + 1).toNat = n + 1 := by omega
    have e2 : IntKind.i64.wrap ((n : Int) + 1) = (n : Int) + 1 := wrap_in _ (by omega) (by omega)
    have e3 : IntKind.i64.wrap (s[n].toNat : Int) = s[n].toNat := wrap_in _ (by omega) (by omega)
    have e4 : IntKind.i64.wrap (s[n + 1].toNat : Int) = s[n + 1].toNat := wrap_in _ (by omega) (by omega)
    go_wp2_with go_in
    go_quiet (fail)
    go_wp2
    go_ret
    exact ⟨by rw [HG.out]; rfl, _, rfl⟩
  · have HG := Lib.hid (get16_out s p h)
    by_cases h0 : 0 ≤ p
    · have h2 : ¬ p ≤ (s.size : Int) - 2 := by omega
      clear h
      go_enter Try.func179, Try.ntmps179
      go_wp2
      go_ret
      exact ⟨by rw [HG.out]; rfl, 0, rfl⟩
    · clear h
      go_enter Try.func179, Try.ntmps179
      go_wp2
      go_ret
      exact ⟨by rw [HG.out]; rfl, 0, rfl⟩
theorem impl_get16_any (s : ByteArray) (p : Int) (w : World) (hs : s.size ≤ maxLen) (hp : -9223372036854775808 ≤ p ∧ p ≤ 9223372036854775807) :
    Calls Try.prog 179 #[.string s, .int .i64 p] w fun e w' => e = .returned (.int .i64 (get16 s p)) ∧ Below w.heap.size w w' :=
  (impl_get16 s p w hs hp).mono fun _ _ ⟨h1, m, h2⟩ => ⟨h1, h2 ▸ below_of_drewN w m⟩

end Go.Proofs.Ytfbnjemmmgobkaa
