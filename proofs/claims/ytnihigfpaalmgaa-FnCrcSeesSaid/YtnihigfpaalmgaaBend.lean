/- A text with one bit flipped: what the laws' own help gives. -/
import Derived.Test.YtnihigfpaalmgaaBase
import Derived.Test.YtnihigfpaalmgaaCrcBit
import Derived.Test.YtnihigfpaalmgaaBytesSpec
import Derived.Deep.QuietTactic
import Derived.BigQuiet
import Derived.BigRegion
import Derived.Laws.DeepStrings4
namespace Go.Proofs.Ytnihigfpaalmgaa
open Go.RowKit

theorem flip_byte (x : UInt8) (m d : Int) (h0 : 0 ≤ m) (h8 : m < 8) (hd : bits .xor .u8 (x.toNat : Int) (2 ^ m.toNat % 256) = d) : 0 ≤ d ∧ d < 256 ∧ UInt8.ofNat d.toNat ≠ x := by
  obtain ⟨c, hc, c0, c1⟩ : ∃ c : Nat, (2 : Int) ^ m.toNat % 256 = (c : Int) ∧ 0 < c ∧ c < 256 := by
    have : m = 0 ∨ m = 1 ∨ m = 2 ∨ m = 3 ∨ m = 4 ∨ m = 5 ∨ m = 6 ∨ m = 7 := by omega
    rcases this with rfl | rfl | rfl | rfl | rfl | rfl | rfl | rfl
    · exact ⟨1, by decide, by decide, by decide⟩
    · exact ⟨2, by decide, by decide, by decide⟩
    · exact ⟨4, by decide, by decide, by decide⟩
    · exact ⟨8, by decide, by decide, by decide⟩
    · exact ⟨16, by decide, by decide, by decide⟩
    · exact ⟨32, by decide, by decide, by decide⟩
    · exact ⟨64, by decide, by decide, by decide⟩
    · exact ⟨128, by decide, by decide, by decide⟩
  have hx := UInt8.toNat_lt x
  have hb : x.toNat ^^^ c < 2 ^ 8 := Nat.xor_lt_two_pow (by omega) (by omega)
  rw [hc, u8_xor_nat x.toNat c (by omega) c1] at hd
  subst hd
  refine ⟨by omega, by omega, fun h => ?_⟩
  have h1 := congrArg UInt8.toNat h
  rw [Int.toNat_natCast, UInt8.toNat_ofNat', Nat.mod_eq_of_lt (by omega)] at h1
  have h2 : x.toNat ^^^ c = x.toNat ^^^ 0 := by rw [h1, Nat.xor_zero]
  have := xor_cancel_left h2
  omega

set_option maxHeartbeats 2000000 in
set_option maxRecDepth 100000 in
theorem bend_any (s : ByteArray) (i : Int) (w : World) (h0 : 0 < s.size) (hs : s.size ≤ 4194304) (hi : 0 ≤ i ∧ i ≤ 65535) :
    Calls Try.prog 34 #[.string s, .int .i64 i] w fun e w' => (∃ (k : Nat) (h : k < s.size) (y : UInt8), y ≠ s[k] ∧ e = .returned (.string (bendB s k y))) ∧ Below w.heap.size w w' := by
  obtain ⟨K, hK⟩ : ∃ K : Nat, i / 8 % (s.size : Int) = (K : Int) := ⟨(i / 8 % (s.size : Int)).toNat, by have := Int.emod_nonneg (i / 8) (show (s.size : Int) ≠ 0 by omega); omega⟩
  have hKs : K < s.size := by have := Int.emod_lt_of_pos (i / 8) (show 0 < (s.size : Int) by omega); omega
  have hm0 : 0 ≤ i % 8 := by omega
  have hm8 : i % 8 < 8 := by omega
  obtain ⟨m, hm⟩ : ∃ m : Int, i % 8 = m := ⟨_, rfl⟩
  rw [hm] at hm0 hm8
  go_enter Try.func34, Try.ntmps34
  go_wp2
  simp only [hK]
  have c1 : (K : Int) ≤ (s.size : Int) := by omega
  have c2 : (K : Int) < (s.size : Int) := by omega
  clear hK
  have b1 : s[K].toNat < 256 := UInt8.toNat_lt _
  have c3 : (K : Int) + 1 ≤ (s.size : Int) := by omega
  have e1 : ((K : Int) + 1).toNat = K + 1 := by omega
  have e2 : IntKind.i64.wrap ((K : Int) + 1) = (K : Int) + 1 := wrap_in _ (by omega) (by omega)
  obtain ⟨d, hd⟩ : ∃ d, bits .xor .u8 (s[K].toNat : Int) (2 ^ m.toNat % 256) = d := ⟨_, rfl⟩
  have hd0 := flip_byte s[K] m d hm0 hm8 hd
  have hconv : ∀ W : World, (convert 22 9 (.slice (some ⟨W.heap.size, 0, none⟩) 1 1)).run Try.prog (W.alloc (.cells #[.int .u8 d] 5)) = .ok (.string ⟨#[UInt8.ofNat d.toNat]⟩) (W.alloc (.cells #[.int .u8 d] 5)) := fun W => conv_bytes [d] (by simp; omega) W
  have hconvD : ∀ W : World, (convert 22 9 (.slice (some ⟨W.heap.size, 0, none⟩) 1 1)).run Try.prog (W.alloc (.cells #[.int .u8 d] 5)).drew = .ok (.string ⟨#[UInt8.ofNat d.toNat]⟩) (W.alloc (.cells #[.int .u8 d] 5)).drew := fun W => hconv W.drew
  clear hconv
  have hpos : 0 ≤ i.tmod 8 := by rw [Int.tmod_eq_emod_of_nonneg hi.1]; omega
  go_region
  go_wp2
  go_ret
  exact ⟨⟨K, hKs, _, hd0.2.2, rfl⟩, ((Below.refl _ _).alloc (Nat.le_refl _) _).drew⟩

end Go.Proofs.Ytnihigfpaalmgaa
