/- Contracts of the model's words in byte strings. -/
import Derived.Test.YtfbnjemmmgobkaaBase
import Derived.Test.YtfbnjemmmgobkaaBytesMath
import Derived.Deep.QuietTactic
import Derived.BigQuiet
namespace Go.Proofs.Ytfbnjemmmgobkaa
open Go.RowKit

theorem w16_conv (v : Int) (h0 : 0 ≤ v) (h1 : v ≤ 65535) : (⟨#[UInt8.ofNat (v / 256).toNat, UInt8.ofNat (v % 256).toNat]⟩ : ByteArray) = w16 v := by
  unfold w16 low
  rw [show v / 256 % 256 = v / 256 from by omega]
theorem w32_conv (v : Int) (h0 : 0 ≤ v) (h1 : v ≤ 4294967295) : (⟨#[UInt8.ofNat (v / 16777216).toNat, UInt8.ofNat (v / 65536 % 256).toNat, UInt8.ofNat (v / 256 % 256).toNat, UInt8.ofNat (v % 256).toNat]⟩ : ByteArray) = w32 v := by
  unfold w32 low
  rw [show v / 16777216 % 256 = v / 16777216 from by omega]

theorem spec_word32_in (v : Int) (w : World) (h0 : 0 ≤ v) (h1 : v ≤ 4294967295) :
    Calls Try.prog 177 #[.int .i64 v] w fun e w' => e = .returned (.string (w32 v)) ∧ Below w.heap.size w w' := by
  have hconv := conv_four (v / 16777216) (v / 65536 % 256) (v / 256 % 256) (v % 256) (by omega) (by omega) (by omega) (by omega)
  rw [w32_conv v h0 h1] at hconv
  go_enter Try.func177, Try.ntmps177
  go_wp2
  go_ret
  exact ⟨rfl, (Below.refl _ _).alloc (Nat.le_refl _) _⟩
theorem spec_word32_out (v : Int) (w : World) (h : ¬ (0 ≤ v ∧ v ≤ 4294967295)) :
    Calls Try.prog 177 #[.int .i64 v] w fun e w' => e = .returned (.string ⟨#[]⟩) ∧ w = w' := by
  by_cases h0 : 0 ≤ v
  · have h1 : ¬ v ≤ 4294967295 := fun h1 => h ⟨h0, h1⟩
    clear h
    go_enter Try.func177, Try.ntmps177
    go_wp2
    go_ret
    exact ⟨rfl, rfl⟩
  · clear h
    go_enter Try.func177, Try.ntmps177
    go_wp2
    go_ret
    exact ⟨rfl, rfl⟩

end Go.Proofs.Ytfbnjemmmgobkaa
