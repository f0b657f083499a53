/- Contracts of the model's words in byte strings. -/
import Derived.Test.YtbidaccdjnbhfaaBase
import Derived.Test.YtbidaccdjnbhfaaBytesMath
import Derived.Deep.QuietTactic
import Derived.BigQuiet
namespace Go.Proofs.Ytbidaccdjnbhfaa
open Go.RowKit

theorem w16_conv (v : Int) (h0 : 0 ≤ v) (h1 : v ≤ 65535) : (⟨#[UInt8.ofNat (v / 256).toNat, UInt8.ofNat (v % 256).toNat]⟩ : ByteArray) = w16 v := by
  unfold w16 low
  rw [show v / 256 % 256 = v / 256 from by omega]
theorem w32_conv (v : Int) (h0 : 0 ≤ v) (h1 : v ≤ 4294967295) : (⟨#[UInt8.ofNat (v / 16777216).toNat, UInt8.ofNat (v / 65536 % 256).toNat, UInt8.ofNat (v / 256 % 256).toNat, UInt8.ofNat (v % 256).toNat]⟩ : ByteArray) = w32 v := by
  unfold w32 low
  rw [show v / 16777216 % 256 = v / 16777216 from by omega]

theorem spec_word16_in (v : Int) (w : World) (h0 : 0 ≤ v) (h1 : v ≤ 65535) :
    Calls Try.prog 83 #[.int .i64 v] w fun e w' => e = .returned (.string (w16 v)) ∧ Below w.heap.size w w' := by
  have hconv := conv_two (v / 256) (v % 256) (by omega) (by omega)
  rw [w16_conv v h0 h1] at hconv
  go_enter Try.func83, Try.ntmps83
  go_wp2
  go_ret
  exact ⟨rfl, (Below.refl _ _).alloc (Nat.le_refl _) _⟩
theorem spec_word16_out (v : Int) (w : World) (h : ¬ (0 ≤ v ∧ v ≤ 65535)) :
    Calls Try.prog 83 #[.int .i64 v] w fun e w' => e = .returned (.string ⟨#[]⟩) ∧ w = w' := by
  by_cases h0 : 0 ≤ v
  · have h1 : ¬ v ≤ 65535 := fun h1 => h ⟨h0, h1⟩
    clear h
    go_enter Try.func83, Try.ntmps83
    go_wp2
    go_ret
    exact ⟨rfl, rfl⟩
  · clear h
    go_enter Try.func83, Try.ntmps83
    go_wp2
    go_ret
    exact ⟨rfl, rfl⟩

theorem spec_word32_in (v : Int) (w : World) (h0 : 0 ≤ v) (h1 : v ≤ 4294967295) :
    Calls Try.prog 124 #[.int .i64 v] w fun e w' => e = .returned (.string (w32 v)) ∧ Below w.heap.size w w' := by
  have hconv := conv_four (v / 16777216) (v / 65536 % 256) (v / 256 % 256) (v % 256) (by omega) (by omega) (by omega) (by omega)
  rw [w32_conv v h0 h1] at hconv
  go_enter Try.func124, Try.ntmps124
  go_wp2
  go_ret
  exact ⟨rfl, (Below.refl _ _).alloc (Nat.le_refl _) _⟩
theorem spec_word32_out (v : Int) (w : World) (h : ¬ (0 ≤ v ∧ v ≤ 4294967295)) :
    Calls Try.prog 124 #[.int .i64 v] w fun e w' => e = .returned (.string ⟨#[]⟩) ∧ w = w' := by
  by_cases h0 : 0 ≤ v
  · have h1 : ¬ v ≤ 4294967295 := fun h1 => h ⟨h0, h1⟩
    clear h
    go_enter Try.func124, Try.ntmps124
    go_wp2
    go_ret
    exact ⟨rfl, rfl⟩
  · clear h
    go_enter Try.func124, Try.ntmps124
    go_wp2
    go_ret
    exact ⟨rfl, rfl⟩

end Go.Proofs.Ytbidaccdjnbhfaa
