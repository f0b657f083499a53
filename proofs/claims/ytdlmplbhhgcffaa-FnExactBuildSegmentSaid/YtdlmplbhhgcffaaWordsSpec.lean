/- Contracts of the model's words in byte strings. -/
import Derived.Test.YtdlmplbhhgcffaaBase
import Derived.Test.YtdlmplbhhgcffaaBytesMath
import Derived.Deep.QuietTactic
import Derived.BigQuiet
namespace Go.Proofs.Ytdlmplbhhgcffaa
open Go.RowKit

theorem w16_conv (v : Int) (h0 : 0 ≤ v) (h1 : v ≤ 65535) : (⟨#[UInt8.ofNat (v / 256).toNat, UInt8.ofNat (v % 256).toNat]⟩ : ByteArray) = w16 v := by
  unfold w16 low
  rw [show v / 256 % 256 = v / 256 from by omega]
theorem w32_conv (v : Int) (h0 : 0 ≤ v) (h1 : v ≤ 4294967295) : (⟨#[UInt8.ofNat (v / 16777216).toNat, UInt8.ofNat (v / 65536 % 256).toNat, UInt8.ofNat (v / 256 % 256).toNat, UInt8.ofNat (v % 256).toNat]⟩ : ByteArray) = w32 v := by
  unfold w32 low
  rw [show v / 16777216 % 256 = v / 16777216 from by omega]

theorem spec_word16_in (v : Int) (w : World) (h0 : 0 ≤ v) (h1 : v ≤ 65535) :
    Calls Try.prog 66 #[.int .i64 v] w fun e w' => e = .returned (.string (w16 v)) ∧ Below w.heap.size w w' := by
  have hconv := conv_two (v / 256) (v % 256) (by omega) (by omega)
  rw [w16_conv v h0 h1] at hconv
  go_enter Try.func66, Try.ntmps66
  go_wp2
  go_ret
  exact ⟨rfl, (Below.refl _ _).alloc (Nat.le_refl _) _⟩
theorem spec_word16_out (v : Int) (w : World) (h : ¬ (0 ≤ v ∧ v ≤ 65535)) :
    Calls Try.prog 66 #[.int .i64 v] w fun e w' => e = .returned (.string ⟨#[]⟩) ∧ w = w' := by
  by_cases h0 : 0 ≤ v
  · have h1 : ¬ v ≤ 65535 := fun h1 => h ⟨h0, h1⟩
    clear h
    go_enter Try.func66, Try.ntmps66
    go_wp2
    go_ret
    exact ⟨rfl, rfl⟩
  · clear h
    go_enter Try.func66, Try.ntmps66
    go_wp2
    go_ret
    exact ⟨rfl, rfl⟩

theorem spec_word32_in (v : Int) (w : World) (h0 : 0 ≤ v) (h1 : v ≤ 4294967295) :
    Calls Try.prog 71 #[.int .i64 v] w fun e w' => e = .returned (.string (w32 v)) ∧ Below w.heap.size w w' := by
  have hconv := conv_four (v / 16777216) (v / 65536 % 256) (v / 256 % 256) (v % 256) (by omega) (by omega) (by omega) (by omega)
  rw [w32_conv v h0 h1] at hconv
  go_enter Try.func71, Try.ntmps71
  go_wp2
  go_ret
  exact ⟨rfl, (Below.refl _ _).alloc (Nat.le_refl _) _⟩
theorem spec_word32_out (v : Int) (w : World) (h : ¬ (0 ≤ v ∧ v ≤ 4294967295)) :
    Calls Try.prog 71 #[.int .i64 v] w fun e w' => e = .returned (.string ⟨#[]⟩) ∧ w = w' := by
  by_cases h0 : 0 ≤ v
  · have h1 : ¬ v ≤ 4294967295 := fun h1 => h ⟨h0, h1⟩
    clear h
    go_enter Try.func71, Try.ntmps71
    go_wp2
    go_ret
    exact ⟨rfl, rfl⟩
  · clear h
    go_enter Try.func71, Try.ntmps71
    go_wp2
    go_ret
    exact ⟨rfl, rfl⟩

theorem spec_get16 (s : ByteArray) (p : Int) (w : World) (hs : s.size ≤ maxLen) (hp : -9223372036854775808 ≤ p ∧ p ≤ 9223372036854775807) :
    Calls Try.prog 67 #[.string s, .int .i64 p] w fun e w' => e = .returned (.int .i64 (get16 s p)) ∧ ∃ m, w' = w.drewN m := by
  unfold maxLen at hs
  by_cases h : 0 ≤ p ∧ p + 2 ≤ s.size
  · obtain ⟨n, rfl⟩ : ∃ n : Nat, p = n := ⟨p.toNat, by omega⟩
    have h1 : n + 1 < s.size := by omega
    have HG : Hid (get16 s n = (s[n].toNat : Int) * 256 + (s[n + 1].toNat : Int)) := Lib.hid (by rw [get16_in s n (by omega), byteI_at s n (by omega), byteI_at s (n + 1) h1])
    have b1 : s[n].toNat < 256 := UInt8.toNat_lt _
    have b2 : s[n + 1].toNat < 256 := UInt8.toNat_lt _
    have c1 : (n : Int) ≤ (s.size : Int) := by omega
    have c2 : 2 ≤ (s.size : Int) - (n : Int) := by omega
    go_enter Try.func67, Try.ntmps67
    have c3 : (n : Int) < (s.size : Int) := by omega
    have c4 : (n : Int) + 1 < (s.size : Int) := by omega
    have c5 : (0 : Int) ≤ (n : Int) + 1 := by omega
    have e1 : ((n : Int) + 1).toNat = n + 1 := by omega
    have e2 : IntKind.i64.wrap ((n : Int) + 1) = (n : Int) + 1 := wrap_in _ (by omega) (by omega)
    have e3 : IntKind.i64.wrap (s[n].toNat : Int) = s[n].toNat := wrap_in _ (by omega) (by omega)
    have e4 : IntKind.i64.wrap (s[n + 1].toNat : Int) = s[n + 1].toNat := wrap_in _ (by omega) (by omega)
    go_wp2_with go_in
    go_quiet (fail)
    go_wp2
    go_ret
    exact ⟨by rw [HG.out]; rfl, _, rfl⟩
  · have HG := Lib.hid (get16_out s p h)
    by_cases h0 : 0 ≤ p
    · by_cases h1 : p ≤ (s.size : Int)
      · have h2 : ¬ 2 ≤ (s.size : Int) - p := by omega
        clear h
        go_enter Try.func67, Try.ntmps67
        go_wp2
        go_ret
        exact ⟨by rw [HG.out]; rfl, 0, rfl⟩
      · clear h
        go_enter Try.func67, Try.ntmps67
        go_wp2
        go_ret
        exact ⟨by rw [HG.out]; rfl, 0, rfl⟩
    · clear h
      go_enter Try.func67, Try.ntmps67
      go_wp2
      go_ret
      exact ⟨by rw [HG.out]; rfl, 0, rfl⟩

theorem spec_get32 (s : ByteArray) (p : Int) (w : World) (hs : s.size ≤ maxLen) (hp : -9223372036854775808 ≤ p ∧ p ≤ 9223372036854775807) :
    Calls Try.prog 68 #[.string s, .int .i64 p] w fun e w' => e = .returned (.int .i64 (get32 s p)) ∧ ∃ m, w' = w.drewN m := by
  have HM := Lib.hid hs
  unfold maxLen at hs
  by_cases h : 0 ≤ p ∧ p + 4 ≤ s.size
  · obtain ⟨n, rfl⟩ : ∃ n : Nat, p = n := ⟨p.toNat, by omega⟩
    have HG : Hid (get32 s n = get16 s n * 65536 + get16 s ((n : Int) + 2)) := Lib.hid (by unfold get32; rw [if_pos h])
    have b1 := get16_bd s n (by omega)
    have b2 := get16_bd s (n + 2) (by omega)
    rw [show ((n + 2 : Nat) : Int) = (n : Int) + 2 from by omega] at b2
    have c1 : (n : Int) ≤ (s.size : Int) := by omega
    have c2 : 4 ≤ (s.size : Int) - (n : Int) := by omega
    go_enter Try.func68, Try.ntmps68
    go_wp2_with (first
      | (go_at_call 67; with_reducible refine (spec_get16 _ _ _ HM.out (by omega)).mono ?_; rintro e w' ⟨rfl, m, rfl⟩)
      | go_in)
    go_ret
    exact ⟨by rw [HG.out]; rfl, _, rfl⟩
  · have HG : Hid (get32 s p = -1) := Lib.hid (by unfold get32; rw [if_neg h])
    by_cases h0 : 0 ≤ p
    · by_cases h1 : p ≤ (s.size : Int)
      · have h2 : ¬ 4 ≤ (s.size : Int) - p := by omega
        clear h
        go_enter Try.func68, Try.ntmps68
        go_wp2
        go_ret
        exact ⟨by rw [HG.out]; rfl, 0, rfl⟩
      · clear h
        go_enter Try.func68, Try.ntmps68
        go_wp2
        go_ret
        exact ⟨by rw [HG.out]; rfl, 0, rfl⟩
    · clear h
      go_enter Try.func68, Try.ntmps68
      go_wp2
      go_ret
      exact ⟨by rw [HG.out]; rfl, 0, rfl⟩

end Go.Proofs.Ytdlmplbhhgcffaa
