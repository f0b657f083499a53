/- Texts of one claim, merged. -/
import Derived.Test.YtbidaccdjnbhfaaKit
import Derived.Test.YtbidaccdjnbhfaaPktMath
import Derived.Test.YtbidaccdjnbhfaaBase
import Derived.Test.YtbidaccdjnbhfaaBytesMath
import Derived.Deep.QuietTactic
import Derived.BigQuiet
import Derived.Test.YtbidaccdjnbhfaaBytesVal
import Derived.Test.YtbidaccdjnbhfaaCrcMath
import Derived.Test.YtbidaccdjnbhfaaEthMath
import Derived.Test.YtbidaccdjnbhfaaInBoth
import Derived.Test.YtbidaccdjnbhfaaRegion
import Derived.Test.YtbidaccdjnbhfaaSegOkB
import Derived.Deep.DeepCutAuto
/- Two bytes made into a string, wherever they lie; headers of datagrams. -/
namespace Go.Proofs.Ytbidaccdjnbhfaa
open Go.RowKit
/-- Two bytes. -/
def two (a b : Int) : ByteArray := ⟨#[low a, low b]⟩
theorem conv_two_at (t : TypeId) (a b : Int) (ha : 0 ≤ a ∧ a < 256) (hb : 0 ≤ b ∧ b < 256) (g : Nat) (W : World) (h : W.heap[g]? = some (.cells #[.int .u8 a, .int .u8 b] t (0, 0))) :
    (convert 110 9 (.slice (some ⟨g, 0, none⟩) 2 2)).run Try.prog W = .ok (.string (two a b)) W := by
  have h0 := run_convert_bytes_back (P := Try.prog) W 110 9 5 ⟨g, 0, none⟩ 2 [low a, low b]
    Try.underlying110 Try.underlying5 Try.underlying9 (fun j hj => by
      have hadd : (⟨g, 0, none⟩ : Addr).add j = ⟨g, j, none⟩ := by unfold Addr.add; split <;> simp_all
      rw [hadd, cell_of_row _ _ j _ _ _ h]
      have hj' : j < 2 := hj
      have l1 := low_toNat a
      have l2 := low_toNat b
      rcases (show j = 0 ∨ j = 1 by omega) with rfl | rfl
      · show some (Value.int IntKind.u8 a) = some (Value.int IntKind.u8 ((low a).toNat : Int))
        rw [l1, Int.emod_eq_of_lt ha.1 ha.2]
      · show some (Value.int IntKind.u8 b) = some (Value.int IntKind.u8 ((low b).toNat : Int))
        rw [l2, Int.emod_eq_of_lt hb.1 hb.2])
  exact h0
/-- The header of a datagram with zero in place of the checksum. -/
def IpM.blank (e : IpM) : ByteArray :=
  two 69 (e.tos % 256) ++ w16 (20 + e.body.size) ++ w16 e.id ++ w16 16384 ++ two (e.ttl % 256) (e.proto % 256) ++ w16 0 ++ w32 e.src ++ w32 e.dst
theorem IpM.blank_size (e : IpM) : e.blank.size = 20 := by
  unfold IpM.blank
  simp only [ByteArray.size_append]
  rfl
def IpM.header (e : IpM) : ByteArray := put e.blank 10 (w16 (65535 - sumW e.blank))
theorem IpM.header_size (e : IpM) : e.header.size = 20 := by
  unfold IpM.header put
  rw [if_pos (by rw [e.blank_size]; exact ⟨by decide, by show (10 : Int) + 2 ≤ 20; decide⟩)]
  simp only [ByteArray.size_append, ByteArray.size_extract, e.blank_size]
  rfl
def IpM.bytes (e : IpM) : ByteArray := e.header ++ e.body
def IpM.head (e : IpM) : ByteArray := if e.Ok then e.header else ⟨#[]⟩
def IpM.built (e : IpM) : ByteArray := if e.Ok then e.bytes else ⟨#[]⟩
end Go.Proofs.Ytbidaccdjnbhfaa

/- Contracts of the model's words in byte strings. -/
namespace Go.Proofs.Ytbidaccdjnbhfaa
open Go.RowKit

theorem w16_conv (v : Int) (h0 : 0 ≤ v) (h1 : v ≤ 65535) : (⟨#[UInt8.ofNat (v / 256).toNat, UInt8.ofNat (v % 256).toNat]⟩ : ByteArray) = w16 v := by
  unfold w16 low
  rw [show v / 256 % 256 = v / 256 from by omega]
theorem w32_conv (v : Int) (h0 : 0 ≤ v) (h1 : v ≤ 4294967295) : (⟨#[UInt8.ofNat (v / 16777216).toNat, UInt8.ofNat (v / 65536 % 256).toNat, UInt8.ofNat (v / 256 % 256).toNat, UInt8.ofNat (v % 256).toNat]⟩ : ByteArray) = w32 v := by
  unfold w32 low
  rw [show v / 16777216 % 256 = v / 16777216 from by omega]

theorem spec_word16_in (v : Int) (w : World) (h0 : 0 ≤ v) (h1 : v ≤ 65535) :
    Calls Try.prog 83 #[.int .i64 v] w fun e w' => e = .returned (.string (w16 v)) ∧ Below w.heap.size w w' := by
  have hconv := conv_two (v / 256) (v % 256) (by omega) (by omega)
  rw [w16_conv v h0 h1] at hconv
  go_enter Try.func83, Try.ntmps83
  go_wp2
  go_ret
  exact ⟨rfl, (Below.refl _ _).alloc (Nat.le_refl _) _⟩
theorem spec_word16_out (v : Int) (w : World) (h : ¬ (0 ≤ v ∧ v ≤ 65535)) :
    Calls Try.prog 83 #[.int .i64 v] w fun e w' => e = .returned (.string ⟨#[]⟩) ∧ w = w' := by
  by_cases h0 : 0 ≤ v
  · have h1 : ¬ v ≤ 65535 := fun h1 => h ⟨h0, h1⟩
    clear h
    go_enter Try.func83, Try.ntmps83
    go_wp2
    go_ret
    exact ⟨rfl, rfl⟩
  · clear h
    go_enter Try.func83, Try.ntmps83
    go_wp2
    go_ret
    exact ⟨rfl, rfl⟩

theorem spec_word32_in (v : Int) (w : World) (h0 : 0 ≤ v) (h1 : v ≤ 4294967295) :
    Calls Try.prog 124 #[.int .i64 v] w fun e w' => e = .returned (.string (w32 v)) ∧ Below w.heap.size w w' := by
  have hconv := conv_four (v / 16777216) (v / 65536 % 256) (v / 256 % 256) (v % 256) (by omega) (by omega) (by omega) (by omega)
  rw [w32_conv v h0 h1] at hconv
  go_enter Try.func124, Try.ntmps124
  go_wp2
  go_ret
  exact ⟨rfl, (Below.refl _ _).alloc (Nat.le_refl _) _⟩
theorem spec_word32_out (v : Int) (w : World) (h : ¬ (0 ≤ v ∧ v ≤ 4294967295)) :
    Calls Try.prog 124 #[.int .i64 v] w fun e w' => e = .returned (.string ⟨#[]⟩) ∧ w = w' := by
  by_cases h0 : 0 ≤ v
  · have h1 : ¬ v ≤ 4294967295 := fun h1 => h ⟨h0, h1⟩
    clear h
    go_enter Try.func124, Try.ntmps124
    go_wp2
    go_ret
    exact ⟨rfl, rfl⟩
  · clear h
    go_enter Try.func124, Try.ntmps124
    go_wp2
    go_ret
    exact ⟨rfl, rfl⟩

end Go.Proofs.Ytbidaccdjnbhfaa

/- Contracts of the model's words, of every argument. -/
namespace Go.Proofs.Ytbidaccdjnbhfaa
open Go.RowKit

theorem spec_word16 (v : Int) (w : World) : Calls Try.prog 83 #[.int .i64 v] w fun e w' => e = .returned (.string (word16V v)) ∧ Below w.heap.size w w' := by
  by_cases h : 0 ≤ v ∧ v ≤ 65535
  · rw [show word16V v = w16 v from if_pos h]; exact spec_word16_in v w h.1 h.2
  · rw [show word16V v = ⟨#[]⟩ from if_neg h]; exact (spec_word16_out v w h).mono fun _ _ hh => ⟨hh.1, hh.2 ▸ Below.refl _ _⟩
theorem spec_word32 (v : Int) (w : World) : Calls Try.prog 124 #[.int .i64 v] w fun e w' => e = .returned (.string (word32V v)) ∧ Below w.heap.size w w' := by
  by_cases h : 0 ≤ v ∧ v ≤ 4294967295
  · rw [show word32V v = w32 v from if_pos h]; exact spec_word32_in v w h.1 h.2
  · rw [show word32V v = ⟨#[]⟩ from if_neg h]; exact (spec_word32_out v w h).mono fun _ _ hh => ⟨hh.1, hh.2 ▸ Below.refl _ _⟩
end Go.Proofs.Ytbidaccdjnbhfaa

/- Contracts of the program's words in byte strings. -/
namespace Go.Proofs.Ytbidaccdjnbhfaa
open Go.RowKit

theorem or64_shift (a b k : Nat) (hb : b < 2 ^ k) (ha : a * 2 ^ k + b < 9223372036854775808) : bits .or .i64 ((a * 2 ^ k : Nat) : Int) (b : Int) = ((a * 2 ^ k + b : Nat) : Int) := by
  have h0 : a * 2 ^ k ||| b = a * 2 ^ k + b := by
    rw [← Nat.shiftLeft_eq, Nat.shiftLeft_add_eq_or_of_lt hb]
  show IntKind.i64.wrap ((BitVec.ofInt 64 ((a * 2 ^ k : Nat) : Int) ||| BitVec.ofInt 64 (b : Int)).toNat : Int) = _
  rw [BitVec.toNat_or, ofInt64 _ (by omega), ofInt64 b (by omega), h0, IntKind.wrap_i64]
  omega
theorem or_8 (a b : Int) (ha : 0 ≤ a ∧ a ≤ 255) (hb : 0 ≤ b ∧ b ≤ 255) : bits .or .i64 (a * 256) b = a * 256 + b := by
  obtain ⟨m, rfl⟩ : ∃ m : Nat, a = m := ⟨a.toNat, by omega⟩
  obtain ⟨n, rfl⟩ : ∃ n : Nat, b = n := ⟨b.toNat, by omega⟩
  have h := or64_shift m n 8 (by omega) (by omega)
  simpa using h
theorem or_16 (a b : Int) (ha : 0 ≤ a ∧ a ≤ 65535) (hb : 0 ≤ b ∧ b ≤ 65535) : bits .or .i64 (a * 65536) b = a * 65536 + b := by
  obtain ⟨m, rfl⟩ : ∃ m : Nat, a = m := ⟨a.toNat, by omega⟩
  obtain ⟨n, rfl⟩ : ∃ n : Nat, b = n := ⟨b.toNat, by omega⟩
  have h := or64_shift m n 16 (by omega) (by omega)
  simpa using h
theorem and_16 (x : Int) (h0 : 0 ≤ x) (h1 : x < 9223372036854775808) : bits .and .i64 x 65535 = x % 65536 := by
  obtain ⟨n, rfl⟩ : ∃ n : Nat, x = n := ⟨x.toNat, by omega⟩
  have h := and64 n 65535 (by omega) (by decide)
  rw [show ((65535 : Nat) : Int) = 65535 from rfl] at h
  rw [h, show (65535 : Nat) = 2 ^ 16 - 1 from rfl, Nat.and_two_pow_sub_one_eq_mod]
  rfl
theorem w32_two (v : Int) : w16 (v / 65536) ++ w16 (v % 65536) = w32 v := by
  unfold w16 w32
  have e1 : low (v / 65536 / 256) = low (v / 16777216) := by unfold low; rw [show v / 65536 / 256 = v / 16777216 from by omega]
  have e2 : low (v % 65536 / 256) = low (v / 256) := by unfold low; rw [show v % 65536 / 256 % 256 = v / 256 % 256 from by omega]
  have e3 : low (v % 65536) = low v := by unfold low; rw [show v % 65536 % 256 = v % 256 from by omega]
  rw [e1, e2, e3]
  rfl

theorem impl_within_yes (x lo hi : Int) (w : World) (h : lo ≤ x ∧ x ≤ hi) :
    Calls Try.prog 69 #[.int .i64 x, .int .i64 lo, .int .i64 hi] w fun e w' => e = .returned (.bool true) ∧ w = w' := by
  obtain ⟨h1, h2⟩ := h
  go_enter Try.func69, Try.ntmps69
  go_wp2
  go_ret
  exact ⟨rfl, rfl⟩
theorem impl_within_no (x lo hi : Int) (w : World) (h : ¬ (lo ≤ x ∧ x ≤ hi)) :
    Calls Try.prog 69 #[.int .i64 x, .int .i64 lo, .int .i64 hi] w fun e w' => e = .returned (.bool false) ∧ w = w' := by
  by_cases h1 : lo ≤ x
  · have h2 : ¬ x ≤ hi := fun h2 => h ⟨h1, h2⟩
    clear h
    go_enter Try.func69, Try.ntmps69
    go_wp2
    go_ret
    exact ⟨rfl, rfl⟩
  · clear h
    go_enter Try.func69, Try.ntmps69
    go_wp2
    go_ret
    exact ⟨rfl, rfl⟩

theorem impl_word16_in (v : Int) (w : World) (h0 : 0 ≤ v) (h1 : v ≤ 65535) :
    Calls Try.prog 123 #[.int .i64 v] w fun e w' => e = .returned (.string (w16 v)) ∧ Below w.heap.size w w' := by
  have hconv := conv_two (v / 256) (v % 256) (by omega) (by omega)
  rw [w16_conv v h0 h1] at hconv
  go_enter Try.func123, Try.ntmps123
  go_wp2
  go_ret
  exact ⟨rfl, (Below.refl _ _).alloc (Nat.le_refl _) _⟩
theorem impl_word16_out (v : Int) (w : World) (h : ¬ (0 ≤ v ∧ v ≤ 65535)) :
    Calls Try.prog 123 #[.int .i64 v] w fun e w' => e = .returned (.string ⟨#[]⟩) ∧ w = w' := by
  by_cases h0 : 0 ≤ v
  · have h1 : ¬ v ≤ 65535 := fun h1 => h ⟨h0, h1⟩
    clear h
    go_enter Try.func123, Try.ntmps123
    go_wp2
    go_ret
    exact ⟨rfl, rfl⟩
  · clear h
    go_enter Try.func123, Try.ntmps123
    go_wp2
    go_ret
    exact ⟨rfl, rfl⟩
theorem impl_word16 (v : Int) (w : World) : Calls Try.prog 123 #[.int .i64 v] w fun e w' => e = .returned (.string (word16V v)) ∧ Below w.heap.size w w' := by
  by_cases h : 0 ≤ v ∧ v ≤ 65535
  · rw [show word16V v = w16 v from if_pos h]; exact impl_word16_in v w h.1 h.2
  · rw [show word16V v = ⟨#[]⟩ from if_neg h]; exact (impl_word16_out v w h).mono fun _ _ hh => ⟨hh.1, hh.2 ▸ Below.refl _ _⟩

theorem impl_word32_in (v : Int) (w : World) (h0 : 0 ≤ v) (h1 : v ≤ 4294967295) :
    Calls Try.prog 143 #[.int .i64 v] w fun e w' => e = .returned (.string (w32 v)) ∧ Below w.heap.size w w' := by
  have e1 := and_16 v h0 (by omega)
  have HW := Lib.hid (w32_two v)
  have z2 : (w16 (v / 65536)).size ≤ 2 := Nat.le_refl _
  have z3 : (w16 (v % 65536)).size ≤ 2 := Nat.le_refl _
  go_enter Try.func143, Try.ntmps143
  go_wp2_with (go_at_call 69; refine (impl_within_yes _ _ _ _ ⟨h0, h1⟩).mono ?_; rintro e w' ⟨rfl, rfl⟩)
  refine (impl_word16_in (v / 65536) _ (by omega) (by omega)).mono ?_
  rintro e w1 ⟨rfl, hb1⟩
  go_wp2_with fail
  refine (impl_word16_in (v % 65536) _ (by omega) (by omega)).mono ?_
  rintro e w2 ⟨rfl, hb2⟩
  go_wp2
  go_ret
  exact ⟨by rw [HW.out]; rfl, hb1.trans (hb2.mono hb1.size)⟩
theorem impl_word32_out (v : Int) (w : World) (h : ¬ (0 ≤ v ∧ v ≤ 4294967295)) :
    Calls Try.prog 143 #[.int .i64 v] w fun e w' => e = .returned (.string ⟨#[]⟩) ∧ w = w' := by
  by_cases h0 : 0 ≤ v
  · have h1 : ¬ v ≤ 4294967295 := fun h1 => h ⟨h0, h1⟩
    clear h
    go_enter Try.func143, Try.ntmps143
    go_wp2
    go_ret
    exact ⟨rfl, rfl⟩
  · clear h
    go_enter Try.func143, Try.ntmps143
    go_wp2
    go_ret
    exact ⟨rfl, rfl⟩
theorem impl_word32 (v : Int) (w : World) : Calls Try.prog 143 #[.int .i64 v] w fun e w' => e = .returned (.string (word32V v)) ∧ Below w.heap.size w w' := by
  by_cases h : 0 ≤ v ∧ v ≤ 4294967295
  · rw [show word32V v = w32 v from if_pos h]; exact impl_word32_in v w h.1 h.2
  · rw [show word32V v = ⟨#[]⟩ from if_neg h]; exact (impl_word32_out v w h).mono fun _ _ hh => ⟨hh.1, hh.2 ▸ Below.refl _ _⟩

end Go.Proofs.Ytbidaccdjnbhfaa

/- Six bytes of an address, of both sides. -/
namespace Go.Proofs.Ytbidaccdjnbhfaa
open Go.RowKit

theorem mac_size (x : Int) : (mac x).size = 6 := rfl
theorem and32 (x : Int) (h0 : 0 ≤ x) (h1 : x < 9223372036854775808) : bits .and .i64 x 4294967295 = x % 4294967296 := by
  obtain ⟨n, rfl⟩ : ∃ n : Nat, x = n := ⟨x.toNat, by omega⟩
  have h := and64 n 4294967295 (by omega) (by decide)
  rw [show ((4294967295 : Nat) : Int) = 4294967295 from rfl] at h
  rw [h, show (4294967295 : Nat) = 2 ^ 32 - 1 from rfl, Nat.and_two_pow_sub_one_eq_mod]
  rfl
theorem word16_in (v : Int) (h : 0 ≤ v ∧ v ≤ 65535) : word16V v = w16 v := if_pos h
theorem word32_in (v : Int) (h : 0 ≤ v ∧ v ≤ 4294967295) : word32V v = w32 v := if_pos h
theorem spec_mac (x : Int) (w : World) (h : 0 ≤ x ∧ x ≤ 281474976710655) :
    Calls Try.prog 130 #[.int .i64 x] w fun r w' => r = .returned (.string (mac x)) ∧ Below w.heap.size w w' := by
  have e1 := and32 x h.1 (by omega)
  have E2 := Lib.hid (word16_in (x / 4294967296) (by omega))
  have E3 := Lib.hid (word32_in (x % 4294967296) (by omega))
  have z2 : (w16 (x / 4294967296)).size ≤ 2 := Nat.le_refl _
  have z3 : (w32 (x % 4294967296)).size ≤ 4 := Nat.le_refl _
  go_enter Try.func130, Try.ntmps130
  go_wp2_with fail
  refine (spec_word16 _ _).mono ?_
  rw [E2.out]
  rintro e w1 ⟨rfl, hb1⟩
  go_wp2_with fail
  refine (spec_word32 _ _).mono ?_
  rw [E3.out]
  rintro e w2 ⟨rfl, hb2⟩
  go_wp2
  go_ret
  exact ⟨rfl, hb1.trans (hb2.mono hb1.size)⟩
theorem impl_mac (x : Int) (w : World) (h : 0 ≤ x ∧ x ≤ 281474976710655) :
    Calls Try.prog 137 #[.int .i64 x] w fun r w' => r = .returned (.string (mac x)) ∧ Below w.heap.size w w' := by
  have e1 := and32 x h.1 (by omega)
  have E2 := Lib.hid (word16_in (x / 4294967296) (by omega))
  have E3 := Lib.hid (word32_in (x % 4294967296) (by omega))
  have z2 : (w16 (x / 4294967296)).size ≤ 2 := Nat.le_refl _
  have z3 : (w32 (x % 4294967296)).size ≤ 4 := Nat.le_refl _
  go_enter Try.func137, Try.ntmps137
  go_wp2_with fail
  refine (impl_word16 _ _).mono ?_
  rw [E2.out]
  rintro e w1 ⟨rfl, hb1⟩
  go_wp2_with fail
  refine (impl_word32 _ _).mono ?_
  rw [E3.out]
  rintro e w2 ⟨rfl, hb2⟩
  go_wp2
  go_ret
  exact ⟨rfl, hb1.trans (hb2.mono hb1.size)⟩
end Go.Proofs.Ytbidaccdjnbhfaa

/- PseudoHeader of both sides. -/
namespace Go.Proofs.Ytbidaccdjnbhfaa
open Go.RowKit
set_option linter.unusedSimpArgs false
set_option linter.unusedVariables false
def pseudoOk (s d k l : Int) : Prop := (0 ≤ s ∧ s ≤ 4294967295) ∧ (0 ≤ d ∧ d ≤ 4294967295) ∧ (0 ≤ k ∧ k ≤ 255) ∧ (0 ≤ l ∧ l ≤ 65535)
instance (s d k l : Int) : Decidable (pseudoOk s d k l) := by unfold pseudoOk; infer_instance
def pseudoB (s d k l : Int) : ByteArray := w32 s ++ w32 d ++ two 0 (k % 256) ++ w16 l
def pseudoV (s d k l : Int) : ByteArray := if pseudoOk s d k l then pseudoB s d k l else ⟨#[]⟩
theorem pseudo_size (s d k l : Int) : (pseudoB s d k l).size = 12 := by
  unfold pseudoB
  simp only [ByteArray.size_append]
  rfl

set_option maxHeartbeats 4000000 in
set_option maxRecDepth 100000 in
theorem spec_pseudo_yes (s d k l : Int) (w : World) (h : pseudoOk s d k l) :
    Calls Try.prog 125 #[.int .i64 s, .int .i64 d, .int .i64 k, .int .i64 l] w fun r w' => r = .returned (.tuple #[.string (pseudoB s d k l), .bool true]) ∧ Below w.heap.size w w' := by
  obtain ⟨h1, h2, h3, h4⟩ := h
  have HW_s := Lib.hid fun W => (by have := spec_word32 s W; rwa [word32_in _ h1] at this : Calls Try.prog 124 #[.int .i64 s] W fun r w' => r = .returned (.string (w32 s)) ∧ Below W.heap.size W w')
  have HW_d := Lib.hid fun W => (by have := spec_word32 d W; rwa [word32_in _ h2] at this : Calls Try.prog 124 #[.int .i64 d] W fun r w' => r = .returned (.string (w32 d)) ∧ Below W.heap.size W w')
  have HWl := Lib.hid fun W => (by have := spec_word16 l W; rwa [word16_in _ h4] at this : Calls Try.prog 83 #[.int .i64 l] W fun r w' => r = .returned (.string (w16 l)) ∧ Below W.heap.size W w')
  have HC := Lib.hid fun g W => conv_two_at 5 0 (k % 256) (by decide) (by omega) g W
  have z1 : (w32 s).size ≤ 4 := Nat.le_refl _
  have z2 : (w32 d).size ≤ 4 := Nat.le_refl _
  have z3 : (w16 l).size ≤ 2 := Nat.le_refl _
  have z4 : (two 0 (k % 256)).size ≤ 2 := Nat.le_refl _
  have HV : Hid (∀ x lo hi W, lo ≤ x ∧ x ≤ hi → Calls Try.prog 71 #[.int .i64 x, .int .i64 lo, .int .i64 hi] W fun e w' => e = .returned (.bool true) ∧ W = w') := Lib.hid fun x lo hi W hx => by have := spec_in x lo hi W; rwa [decide_eq_true hx] at this
  have Hh := Lib.hid (And.intro h1 (And.intro h2 (And.intro h3 h4)))
  clear h1 h2 h3 h4
  go_enter Try.func125, Try.ntmps125
  go_wp2_with (first
    | (go_at_call_of 71 (Value.int .i64 s); refine (HV.out _ _ _ _ Hh.out.1).mono ?_; rintro e w' ⟨rfl, rfl⟩)
    | (go_at_call_of 71 (Value.int .i64 d); refine (HV.out _ _ _ _ Hh.out.2.1).mono ?_; rintro e w' ⟨rfl, rfl⟩)
    | (go_at_call_of 71 (Value.int .i64 k); refine (HV.out _ _ _ _ Hh.out.2.2.1).mono ?_; rintro e w' ⟨rfl, rfl⟩)
    | (go_at_call_of 71 (Value.int .i64 l); refine (HV.out _ _ _ _ Hh.out.2.2.2).mono ?_; rintro e w' ⟨rfl, rfl⟩))
  refine wp_region_values (by kernel_rfl) (fun W => Below w.heap.size w W) (Vals [.int .i64 s, .string (w32 s), .int .i64 d, .string (w32 d), .string ((w32 s) ++ (w32 d)), .int .i64 k, .int .u8 (k % 256), undef, .string (two 0 (k % 256)), .string (((w32 s) ++ (w32 d)) ++ (two 0 (k % 256))), .int .i64 l, .string (w16 l), .string ((((w32 s) ++ (w32 d)) ++ (two 0 (k % 256))) ++ (w16 l)), .string ((((w32 s) ++ (w32 d)) ++ (two 0 (k % 256))) ++ (w16 l)), .bool true] [(7, #[.int .u8 0, .int .u8 (k % 256)], 5, 2)])
    41 rfl (by kernel_rfl) (by kernel_rfl) below_drew (eachOp_all ?_) ?_
  · refine ⟨?_, ?_, ?_, ?_, ?_, ?_, ?_, ?_, ?_, ?_, ?_, ?_, ?_, ?_, ?_, trivial⟩
    · intro a W hd hS hdep hfree
      have x0 : a.tmps.getD 0 undef = .int .i64 s := hfree 0 rfl
      clear hd hdep hfree
      simp only [Oper.wp, execOp]
      go_simp
      refine Nxt.mk _ rfl (fun _ _ => ?_) hS (fun _ _ h => h)
      rfl
    · intro a W hd hS hdep hfree
      have x28 : a.tmps.getD 28 undef = .int .i64 s := hdep 0 28 rfl rfl
      clear hd hdep hfree
      simp only [Oper.wp, execOp]
      go_simp
      refine (HW_s.out W).mono ?_
      rintro e W' ⟨rfl, hb⟩
      exact Nxt.mk _ rfl (fun _ _ => rfl) (below_comp hS hb) (fun j u h => Vals.below hb j u h)
    · intro a W hd hS hdep hfree
      have x1 : a.tmps.getD 1 undef = .int .i64 d := hfree 1 rfl
      clear hd hdep hfree
      simp only [Oper.wp, execOp]
      go_simp
      refine Nxt.mk _ rfl (fun _ _ => ?_) hS (fun _ _ h => h)
      rfl
    · intro a W hd hS hdep hfree
      have x30 : a.tmps.getD 30 undef = .int .i64 d := hdep 2 30 rfl rfl
      clear hd hdep hfree
      simp only [Oper.wp, execOp]
      go_simp
      refine (HW_d.out W).mono ?_
      rintro e W' ⟨rfl, hb⟩
      exact Nxt.mk _ rfl (fun _ _ => rfl) (below_comp hS hb) (fun j u h => Vals.below hb j u h)
    · intro a W hd hS hdep hfree
      have x29 : a.tmps.getD 29 undef = .string (w32 s) := hdep 1 29 rfl rfl
      have x31 : a.tmps.getD 31 undef = .string (w32 d) := hdep 3 31 rfl rfl
      clear hd hdep hfree
      have k : ¬ 9223372036854775807 < (w32 s).size + (w32 d).size := by (try simp only [ByteArray.size_append]); omega
      have k2 := k
      try simp only [ByteArray.size_append] at k2
      simp only [Oper.wp, execOp]
      go_simp
      refine Nxt.mk _ rfl (fun _ _ => ?_) hS (fun _ _ h => h)
      rfl
    · intro a W hd hS hdep hfree
      have x2 : a.tmps.getD 2 undef = .int .i64 k := hfree 2 rfl
      clear hd hdep hfree
      simp only [Oper.wp, execOp]
      go_simp
      refine Nxt.mk _ rfl (fun _ _ => ?_) hS (fun _ _ h => h)
      rfl
    · intro a W hd hS hdep hfree
      have x33 : a.tmps.getD 33 undef = .int .i64 k := hdep 5 33 rfl rfl
      clear hd hdep hfree
      simp only [Oper.wp, execOp]
      go_simp
      refine Nxt.mk _ rfl (fun _ _ => ?_) hS (fun _ _ h => h)
      rfl
    · intro a W hd hS hdep hfree
      have x34 : a.tmps.getD 34 undef = .int .u8 (k % 256) := hdep 6 34 rfl rfl
      have y34 : a.tmps[34]?.getD undef = .int .u8 (k % 256) := by rw [← Array.getD_eq_getD_getElem?]; exact x34
      clear hd hdep hfree
      simp only [Oper.wp, execOp]
      go_simp
      exact Nxt.mk _ rfl (fun _ _ => ⟨W.heap.size, rfl, heap_alloc_new W _, by simp⟩) (below_comp hS (below_new _)) (fun j u h => Vals.below (below_new _) j u h)
    · intro a W hd hS hdep hfree
      obtain ⟨g35, x35, hx35, hl35⟩ : SliceAt W (a.tmps.getD 35 undef) #[.int .u8 0, .int .u8 (k % 256)] 5 2 := hdep 7 35 rfl rfl
      clear hd hdep hfree
      have hcv := HC.out g35 W hx35
      simp only [Oper.wp, execOp]
      go_simp
      refine Nxt.mk _ rfl (fun _ _ => ?_) hS (fun _ _ h => h)
      rfl
    · intro a W hd hS hdep hfree
      have x32 : a.tmps.getD 32 undef = .string ((w32 s) ++ (w32 d)) := hdep 4 32 rfl rfl
      have x36 : a.tmps.getD 36 undef = .string (two 0 (k % 256)) := hdep 8 36 rfl rfl
      clear hd hdep hfree
      have k : ¬ 9223372036854775807 < ((w32 s) ++ (w32 d)).size + (two 0 (k % 256)).size := by (try simp only [ByteArray.size_append]); omega
      have k2 := k
      try simp only [ByteArray.size_append] at k2
      simp only [Oper.wp, execOp]
      go_simp
      refine Nxt.mk _ rfl (fun _ _ => ?_) hS (fun _ _ h => h)
      rfl
    · intro a W hd hS hdep hfree
      have x3 : a.tmps.getD 3 undef = .int .i64 l := hfree 3 rfl
      clear hd hdep hfree
      simp only [Oper.wp, execOp]
      go_simp
      refine Nxt.mk _ rfl (fun _ _ => ?_) hS (fun _ _ h => h)
      rfl
    · intro a W hd hS hdep hfree
      have x38 : a.tmps.getD 38 undef = .int .i64 l := hdep 10 38 rfl rfl
      clear hd hdep hfree
      simp only [Oper.wp, execOp]
      go_simp
      refine (HWl.out W).mono ?_
      rintro e W' ⟨rfl, hb⟩
      exact Nxt.mk _ rfl (fun _ _ => rfl) (below_comp hS hb) (fun j u h => Vals.below hb j u h)
    · intro a W hd hS hdep hfree
      have x37 : a.tmps.getD 37 undef = .string (((w32 s) ++ (w32 d)) ++ (two 0 (k % 256))) := hdep 9 37 rfl rfl
      have x39 : a.tmps.getD 39 undef = .string (w16 l) := hdep 11 39 rfl rfl
      clear hd hdep hfree
      have k : ¬ 9223372036854775807 < (((w32 s) ++ (w32 d)) ++ (two 0 (k % 256))).size + (w16 l).size := by (try simp only [ByteArray.size_append]); omega
      have k2 := k
      try simp only [ByteArray.size_append] at k2
      simp only [Oper.wp, execOp]
      go_simp
      refine Nxt.mk _ rfl (fun _ _ => ?_) hS (fun _ _ h => h)
      rfl
    · intro a W hd hS hdep hfree
      have x40 : a.tmps.getD 40 undef = .string ((((w32 s) ++ (w32 d)) ++ (two 0 (k % 256))) ++ (w16 l)) := hdep 12 40 rfl rfl
      clear hd hdep hfree
      simp only [Oper.wp, execOp]
      go_simp
      refine Nxt.mk _ rfl (fun _ _ => ?_) hS (fun _ _ h => h)
      rfl
    · intro a W hd hS hdep hfree
      clear hd hdep hfree
      simp only [Oper.wp, execOp]
      go_simp
      refine Nxt.mk _ rfl (fun _ _ => ?_) hS (fun _ _ h => h)
      rfl
  intro a W2 hs hd hS2 hdone hrest
  obtain ⟨u35, hu35⟩ : ∃ u, a.tmps.getD 35 undef = u := ⟨_, rfl⟩
  have ea := written_all [.int .i64 s, .string (w32 s), .int .i64 d, .string (w32 d), .string ((w32 s) ++ (w32 d)), .int .i64 k, .int .u8 (k % 256), u35, .string (two 0 (k % 256)), .string (((w32 s) ++ (w32 d)) ++ (two 0 (k % 256))), .int .i64 l, .string (w16 l), .string ((((w32 s) ++ (w32 d)) ++ (two 0 (k % 256))) ++ (w16 l)), .string ((((w32 s) ++ (w32 d)) ++ (two 0 (k % 256))) ++ (w16 l)), .bool true] rfl hs hd hrest (fun j d hj => by
    have h := hdone j d hj
    match j, hj, h with
    | 0, _, h => exact h
    | 1, _, h => exact h
    | 2, _, h => exact h
    | 3, _, h => exact h
    | 4, _, h => exact h
    | 5, _, h => exact h
    | 6, _, h => exact h
    | 7, hj, _ => exact (Option.some.inj hj) ▸ hu35
    | 8, _, h => exact h
    | 9, _, h => exact h
    | 10, _, h => exact h
    | 11, _, h => exact h
    | 12, _, h => exact h
    | 13, _, h => exact h
    | 14, _, h => exact h
    | n + 15, hj, _ => exact absurd (dstOf_lt hj) (by simp))
  clear hu35
  clear hs hd hdone hrest
  subst ea
  simp only [written, List.map_cons, List.map_nil, List.zip_cons_cons, List.zip_nil_right, putAll]
  simp only [Exit.then, Act.put, List.setIfInBounds_toArray, List.set_cons_zero, List.set_cons_succ]
  go_wp2
  go_ret2
  exact ⟨ret_str_bool rfl rfl, hS2⟩
set_option maxHeartbeats 4000000 in
theorem spec_pseudo_no (s d k l : Int) (w : World) (h : ¬ pseudoOk s d k l) :
    Calls Try.prog 125 #[.int .i64 s, .int .i64 d, .int .i64 k, .int .i64 l] w fun r w' => r = .returned (.tuple #[.string ⟨#[]⟩, .bool false]) ∧ Below w.heap.size w w' := by
  have HN := Lib.hid h
  clear h
  by_cases h1 : 0 ≤ s ∧ s ≤ 4294967295
  case' pos =>
    by_cases h2 : 0 ≤ d ∧ d ≤ 4294967295
    case' pos =>
      by_cases h3 : 0 ≤ k ∧ k ≤ 255
      case' pos =>
        have h4 : ¬ (0 ≤ l ∧ l ≤ 65535) := fun h4 => HN.out ⟨h1, h2, h3, h4⟩
  all_goals
    go_enter Try.func125, Try.ntmps125
    go_wp2_with (go_at_call 71; refine (spec_in _ _ _ _).mono ?_; simp only [*, decide_true, decide_false]; rintro e w' ⟨rfl, rfl⟩)
    go_ret2
    exact ⟨rfl, Below.refl _ _⟩
theorem spec_pseudo (s d k l : Int) (w : World) :
    Calls Try.prog 125 #[.int .i64 s, .int .i64 d, .int .i64 k, .int .i64 l] w fun r w' => r = .returned (.tuple #[.string (pseudoV s d k l), .bool (decide (pseudoOk s d k l))]) ∧ Below w.heap.size w w' := by
  by_cases h : pseudoOk s d k l
  · rw [show pseudoV s d k l = pseudoB s d k l from if_pos h, decide_eq_true h]; exact spec_pseudo_yes s d k l w h
  · rw [show pseudoV s d k l = ⟨#[]⟩ from if_neg h, decide_eq_false h]; exact spec_pseudo_no s d k l w h

set_option maxHeartbeats 4000000 in
set_option maxRecDepth 100000 in
theorem impl_pseudo_yes (s d k l : Int) (w : World) (h : pseudoOk s d k l) :
    Calls Try.prog 133 #[.int .i64 s, .int .i64 d, .int .i64 k, .int .i64 l] w fun r w' => r = .returned (.tuple #[.string (pseudoB s d k l), .bool true]) ∧ Below w.heap.size w w' := by
  obtain ⟨h1, h2, h3, h4⟩ := h
  have HW_s := Lib.hid fun W => (by have := impl_word32 s W; rwa [word32_in _ h1] at this : Calls Try.prog 143 #[.int .i64 s] W fun r w' => r = .returned (.string (w32 s)) ∧ Below W.heap.size W w')
  have HW_d := Lib.hid fun W => (by have := impl_word32 d W; rwa [word32_in _ h2] at this : Calls Try.prog 143 #[.int .i64 d] W fun r w' => r = .returned (.string (w32 d)) ∧ Below W.heap.size W w')
  have HWl := Lib.hid fun W => (by have := impl_word16 l W; rwa [word16_in _ h4] at this : Calls Try.prog 123 #[.int .i64 l] W fun r w' => r = .returned (.string (w16 l)) ∧ Below W.heap.size W w')
  have HC := Lib.hid fun g W => conv_two_at 5 0 (k % 256) (by decide) (by omega) g W
  have z1 : (w32 s).size ≤ 4 := Nat.le_refl _
  have z2 : (w32 d).size ≤ 4 := Nat.le_refl _
  have z3 : (w16 l).size ≤ 2 := Nat.le_refl _
  have z4 : (two 0 (k % 256)).size ≤ 2 := Nat.le_refl _
  have HV : Hid (∀ x lo hi W, lo ≤ x ∧ x ≤ hi → Calls Try.prog 69 #[.int .i64 x, .int .i64 lo, .int .i64 hi] W fun e w' => e = .returned (.bool true) ∧ W = w') := Lib.hid fun x lo hi W hx => by have := impl_in x lo hi W; rwa [decide_eq_true hx] at this
  have Hh := Lib.hid (And.intro h1 (And.intro h2 (And.intro h3 h4)))
  clear h1 h2 h3 h4
  go_enter Try.func133, Try.ntmps133
  go_wp2_with (first
    | (go_at_call_of 69 (Value.int .i64 s); refine (HV.out _ _ _ _ Hh.out.1).mono ?_; rintro e w' ⟨rfl, rfl⟩)
    | (go_at_call_of 69 (Value.int .i64 d); refine (HV.out _ _ _ _ Hh.out.2.1).mono ?_; rintro e w' ⟨rfl, rfl⟩)
    | (go_at_call_of 69 (Value.int .i64 k); refine (HV.out _ _ _ _ Hh.out.2.2.1).mono ?_; rintro e w' ⟨rfl, rfl⟩)
    | (go_at_call_of 69 (Value.int .i64 l); refine (HV.out _ _ _ _ Hh.out.2.2.2).mono ?_; rintro e w' ⟨rfl, rfl⟩))
  refine wp_region_values (by kernel_rfl) (fun W => Below w.heap.size w W) (Vals [.int .i64 s, .string (w32 s), .int .i64 d, .string (w32 d), .string ((w32 s) ++ (w32 d)), .int .i64 k, .int .u8 (k % 256), undef, .string (two 0 (k % 256)), .string (((w32 s) ++ (w32 d)) ++ (two 0 (k % 256))), .int .i64 l, .string (w16 l), .string ((((w32 s) ++ (w32 d)) ++ (two 0 (k % 256))) ++ (w16 l)), .string ((((w32 s) ++ (w32 d)) ++ (two 0 (k % 256))) ++ (w16 l)), .bool true] [(7, #[.int .u8 0, .int .u8 (k % 256)], 5, 2)])
    41 rfl (by kernel_rfl) (by kernel_rfl) below_drew (eachOp_all ?_) ?_
  · refine ⟨?_, ?_, ?_, ?_, ?_, ?_, ?_, ?_, ?_, ?_, ?_, ?_, ?_, ?_, ?_, trivial⟩
    · intro a W hd hS hdep hfree
      have x0 : a.tmps.getD 0 undef = .int .i64 s := hfree 0 rfl
      clear hd hdep hfree
      simp only [Oper.wp, execOp]
      go_simp
      refine Nxt.mk _ rfl (fun _ _ => ?_) hS (fun _ _ h => h)
      rfl
    · intro a W hd hS hdep hfree
      have x28 : a.tmps.getD 28 undef = .int .i64 s := hdep 0 28 rfl rfl
      clear hd hdep hfree
      simp only [Oper.wp, execOp]
      go_simp
      refine (HW_s.out W).mono ?_
      rintro e W' ⟨rfl, hb⟩
      exact Nxt.mk _ rfl (fun _ _ => rfl) (below_comp hS hb) (fun j u h => Vals.below hb j u h)
    · intro a W hd hS hdep hfree
      have x1 : a.tmps.getD 1 undef = .int .i64 d := hfree 1 rfl
      clear hd hdep hfree
      simp only [Oper.wp, execOp]
      go_simp
      refine Nxt.mk _ rfl (fun _ _ => ?_) hS (fun _ _ h => h)
      rfl
    · intro a W hd hS hdep hfree
      have x30 : a.tmps.getD 30 undef = .int .i64 d := hdep 2 30 rfl rfl
      clear hd hdep hfree
      simp only [Oper.wp, execOp]
      go_simp
      refine (HW_d.out W).mono ?_
      rintro e W' ⟨rfl, hb⟩
      exact Nxt.mk _ rfl (fun _ _ => rfl) (below_comp hS hb) (fun j u h => Vals.below hb j u h)
    · intro a W hd hS hdep hfree
      have x29 : a.tmps.getD 29 undef = .string (w32 s) := hdep 1 29 rfl rfl
      have x31 : a.tmps.getD 31 undef = .string (w32 d) := hdep 3 31 rfl rfl
      clear hd hdep hfree
      have k : ¬ 9223372036854775807 < (w32 s).size + (w32 d).size := by (try simp only [ByteArray.size_append]); omega
      have k2 := k
      try simp only [ByteArray.size_append] at k2
      simp only [Oper.wp, execOp]
      go_simp
      refine Nxt.mk _ rfl (fun _ _ => ?_) hS (fun _ _ h => h)
      rfl
    · intro a W hd hS hdep hfree
      have x2 : a.tmps.getD 2 undef = .int .i64 k := hfree 2 rfl
      clear hd hdep hfree
      simp only [Oper.wp, execOp]
      go_simp
      refine Nxt.mk _ rfl (fun _ _ => ?_) hS (fun _ _ h => h)
      rfl
    · intro a W hd hS hdep hfree
      have x33 : a.tmps.getD 33 undef = .int .i64 k := hdep 5 33 rfl rfl
      clear hd hdep hfree
      simp only [Oper.wp, execOp]
      go_simp
      refine Nxt.mk _ rfl (fun _ _ => ?_) hS (fun _ _ h => h)
      rfl
    · intro a W hd hS hdep hfree
      have x34 : a.tmps.getD 34 undef = .int .u8 (k % 256) := hdep 6 34 rfl rfl
      have y34 : a.tmps[34]?.getD undef = .int .u8 (k % 256) := by rw [← Array.getD_eq_getD_getElem?]; exact x34
      clear hd hdep hfree
      simp only [Oper.wp, execOp]
      go_simp
      exact Nxt.mk _ rfl (fun _ _ => ⟨W.heap.size, rfl, heap_alloc_new W _, by simp⟩) (below_comp hS (below_new _)) (fun j u h => Vals.below (below_new _) j u h)
    · intro a W hd hS hdep hfree
      obtain ⟨g35, x35, hx35, hl35⟩ : SliceAt W (a.tmps.getD 35 undef) #[.int .u8 0, .int .u8 (k % 256)] 5 2 := hdep 7 35 rfl rfl
      clear hd hdep hfree
      have hcv := HC.out g35 W hx35
      simp only [Oper.wp, execOp]
      go_simp
      refine Nxt.mk _ rfl (fun _ _ => ?_) hS (fun _ _ h => h)
      rfl
    · intro a W hd hS hdep hfree
      have x32 : a.tmps.getD 32 undef = .string ((w32 s) ++ (w32 d)) := hdep 4 32 rfl rfl
      have x36 : a.tmps.getD 36 undef = .string (two 0 (k % 256)) := hdep 8 36 rfl rfl
      clear hd hdep hfree
      have k : ¬ 9223372036854775807 < ((w32 s) ++ (w32 d)).size + (two 0 (k % 256)).size := by (try simp only [ByteArray.size_append]); omega
      have k2 := k
      try simp only [ByteArray.size_append] at k2
      simp only [Oper.wp, execOp]
      go_simp
      refine Nxt.mk _ rfl (fun _ _ => ?_) hS (fun _ _ h => h)
      rfl
    · intro a W hd hS hdep hfree
      have x3 : a.tmps.getD 3 undef = .int .i64 l := hfree 3 rfl
      clear hd hdep hfree
      simp only [Oper.wp, execOp]
      go_simp
      refine Nxt.mk _ rfl (fun _ _ => ?_) hS (fun _ _ h => h)
      rfl
    · intro a W hd hS hdep hfree
      have x38 : a.tmps.getD 38 undef = .int .i64 l := hdep 10 38 rfl rfl
      clear hd hdep hfree
      simp only [Oper.wp, execOp]
      go_simp
      refine (HWl.out W).mono ?_
      rintro e W' ⟨rfl, hb⟩
      exact Nxt.mk _ rfl (fun _ _ => rfl) (below_comp hS hb) (fun j u h => Vals.below hb j u h)
    · intro a W hd hS hdep hfree
      have x37 : a.tmps.getD 37 undef = .string (((w32 s) ++ (w32 d)) ++ (two 0 (k % 256))) := hdep 9 37 rfl rfl
      have x39 : a.tmps.getD 39 undef = .string (w16 l) := hdep 11 39 rfl rfl
      clear hd hdep hfree
      have k : ¬ 9223372036854775807 < (((w32 s) ++ (w32 d)) ++ (two 0 (k % 256))).size + (w16 l).size := by (try simp only [ByteArray.size_append]); omega
      have k2 := k
      try simp only [ByteArray.size_append] at k2
      simp only [Oper.wp, execOp]
      go_simp
      refine Nxt.mk _ rfl (fun _ _ => ?_) hS (fun _ _ h => h)
      rfl
    · intro a W hd hS hdep hfree
      have x40 : a.tmps.getD 40 undef = .string ((((w32 s) ++ (w32 d)) ++ (two 0 (k % 256))) ++ (w16 l)) := hdep 12 40 rfl rfl
      clear hd hdep hfree
      simp only [Oper.wp, execOp]
      go_simp
      refine Nxt.mk _ rfl (fun _ _ => ?_) hS (fun _ _ h => h)
      rfl
    · intro a W hd hS hdep hfree
      clear hd hdep hfree
      simp only [Oper.wp, execOp]
      go_simp
      refine Nxt.mk _ rfl (fun _ _ => ?_) hS (fun _ _ h => h)
      rfl
  intro a W2 hs hd hS2 hdone hrest
  obtain ⟨u35, hu35⟩ : ∃ u, a.tmps.getD 35 undef = u := ⟨_, rfl⟩
  have ea := written_all [.int .i64 s, .string (w32 s), .int .i64 d, .string (w32 d), .string ((w32 s) ++ (w32 d)), .int .i64 k, .int .u8 (k % 256), u35, .string (two 0 (k % 256)), .string (((w32 s) ++ (w32 d)) ++ (two 0 (k % 256))), .int .i64 l, .string (w16 l), .string ((((w32 s) ++ (w32 d)) ++ (two 0 (k % 256))) ++ (w16 l)), .string ((((w32 s) ++ (w32 d)) ++ (two 0 (k % 256))) ++ (w16 l)), .bool true] rfl hs hd hrest (fun j d hj => by
    have h := hdone j d hj
    match j, hj, h with
    | 0, _, h => exact h
    | 1, _, h => exact h
    | 2, _, h => exact h
    | 3, _, h => exact h
    | 4, _, h => exact h
    | 5, _, h => exact h
    | 6, _, h => exact h
    | 7, hj, _ => exact (Option.some.inj hj) ▸ hu35
    | 8, _, h => exact h
    | 9, _, h => exact h
    | 10, _, h => exact h
    | 11, _, h => exact h
    | 12, _, h => exact h
    | 13, _, h => exact h
    | 14, _, h => exact h
    | n + 15, hj, _ => exact absurd (dstOf_lt hj) (by simp))
  clear hu35
  clear hs hd hdone hrest
  subst ea
  simp only [written, List.map_cons, List.map_nil, List.zip_cons_cons, List.zip_nil_right, putAll]
  simp only [Exit.then, Act.put, List.setIfInBounds_toArray, List.set_cons_zero, List.set_cons_succ]
  go_wp2
  go_ret2
  exact ⟨ret_str_bool rfl rfl, hS2⟩
set_option maxHeartbeats 4000000 in
theorem impl_pseudo_no (s d k l : Int) (w : World) (h : ¬ pseudoOk s d k l) :
    Calls Try.prog 133 #[.int .i64 s, .int .i64 d, .int .i64 k, .int .i64 l] w fun r w' => r = .returned (.tuple #[.string ⟨#[]⟩, .bool false]) ∧ Below w.heap.size w w' := by
  have HN := Lib.hid h
  clear h
  by_cases h1 : 0 ≤ s ∧ s ≤ 4294967295
  case' pos =>
    by_cases h2 : 0 ≤ d ∧ d ≤ 4294967295
    case' pos =>
      by_cases h3 : 0 ≤ k ∧ k ≤ 255
      case' pos =>
        have h4 : ¬ (0 ≤ l ∧ l ≤ 65535) := fun h4 => HN.out ⟨h1, h2, h3, h4⟩
  all_goals
    go_enter Try.func133, Try.ntmps133
    go_wp2_with (go_at_call 69; refine (impl_in _ _ _ _).mono ?_; simp only [*, decide_true, decide_false]; rintro e w' ⟨rfl, rfl⟩)
    go_ret2
    exact ⟨rfl, Below.refl _ _⟩
theorem impl_pseudo (s d k l : Int) (w : World) :
    Calls Try.prog 133 #[.int .i64 s, .int .i64 d, .int .i64 k, .int .i64 l] w fun r w' => r = .returned (.tuple #[.string (pseudoV s d k l), .bool (decide (pseudoOk s d k l))]) ∧ Below w.heap.size w w' := by
  by_cases h : pseudoOk s d k l
  · rw [show pseudoV s d k l = pseudoB s d k l from if_pos h, decide_eq_true h]; exact impl_pseudo_yes s d k l w h
  · rw [show pseudoV s d k l = ⟨#[]⟩ from if_neg h, decide_eq_false h]; exact impl_pseudo_no s d k l w h

end Go.Proofs.Ytbidaccdjnbhfaa

/- A checksum put behind its data makes the sum 65535. -/
namespace Go.Proofs.Ytbidaccdjnbhfaa

theorem w16_size (v : Int) : (w16 v).size = 2 := rfl
theorem append_list (a b : ByteArray) : (a ++ b).data.toList = a.data.toList ++ b.data.toList := by simp
theorem sum_insert (s : ByteArray) (he : s.size % 2 = 0) : sumW (s ++ w16 (65535 - sumW s)) = 65535 := by
  have hb := sumW_bd s
  unfold sumW at *
  rw [append_list, sumL_app _ _ _ (by simpa using he)]
  generalize sumL 0 s.data.toList = x at hb
  show addS x (((low ((65535 - x) / 256)).toNat : Int) * 256 + ((low (65535 - x)).toNat : Int)) = 65535
  rw [low_toNat, low_toNat, show (65535 - x) / 256 % 256 * 256 + (65535 - x) % 256 = 65535 - x from by omega]
  unfold addS
  rw [if_pos (by omega), if_neg (by omega)]
  omega
theorem byteI_right (a b : ByteArray) (j : Nat) : byteI (a ++ b) (a.size + j) = byteI b j := by
  unfold byteI
  rw [append_list, List.getD_eq_getElem?_getD, List.getElem?_append_right (by simp), ← List.getD_eq_getElem?_getD]
  simp
theorem get_insert (s : ByteArray) (v : Int) (h : 0 ≤ v ∧ v ≤ 65535) : get16 (s ++ w16 v) s.size = v := by
  rw [get16_in _ _ (by rw [ByteArray.size_append, w16_size]; exact Nat.le_refl _)]
  have h0 := byteI_right s (w16 v) 0
  have h1 := byteI_right s (w16 v) 1
  rw [Nat.add_zero] at h0
  rw [h0, h1]
  show ((low (v / 256)).toNat : Int) * 256 + ((low v).toNat : Int) = v
  rw [low_toNat, low_toNat]
  omega

end Go.Proofs.Ytbidaccdjnbhfaa

/- What a changed word does to the sum: the updated checksum is the one of the changed data, unless these are all zero. -/
namespace Go.Proofs.Ytbidaccdjnbhfaa

/-- The plain sum of the 16-bit numbers of a list. -/
def tot : List UInt8 → Nat
  | a :: b :: r => a.toNat * 256 + b.toNat + tot r
  | [a] => a.toNat * 256
  | [] => 0
/-- The ones' complement form of a sum. -/
def rep (n : Nat) : Nat := if n = 0 then 0 else (n - 1) % 65535 + 1
theorem rep_pos (n : Nat) (h : n ≠ 0) : rep n = (n - 1) % 65535 + 1 := by unfold rep; rw [if_neg h]
theorem rep_small (n : Nat) (h : n ≤ 65535) : rep n = n := by
  by_cases h0 : n = 0
  · subst h0; rfl
  · rw [rep_pos n h0]; omega
theorem rep_le (n : Nat) : rep n ≤ 65535 := by unfold rep; split <;> omega
theorem rep_add (x m : Nat) (hx : x ≤ 65535) : addS (rep m : Nat) (x : Nat) = (rep (m + x) : Nat) := by
  have hm := rep_le m
  unfold addS
  rw [if_pos (by omega)]
  by_cases h0 : m = 0
  · subst h0
    rw [show rep 0 = 0 from rfl, Nat.zero_add, rep_small x hx, if_neg (by omega)]
    omega
  · rw [rep_pos m h0, rep_pos (m + x) (by omega)]
    split <;> omega
theorem sum_rep : ∀ (l : List UInt8) (m : Nat), sumL (rep m : Nat) l = (rep (m + tot l) : Nat)
  | [], m => rfl
  | [a], m => by
    have ha := UInt8.toNat_lt a
    simp only [sumL, tot]
    rw [show (a.toNat : Int) * 256 = ((a.toNat * 256 : Nat) : Int) from by omega, rep_add _ _ (by omega)]
  | a :: b :: l, m => by
    have ha := UInt8.toNat_lt a
    have hb := UInt8.toNat_lt b
    simp only [sumL, tot]
    rw [show (a.toNat : Int) * 256 + (b.toNat : Int) = ((a.toNat * 256 + b.toNat : Nat) : Int) from by omega, rep_add _ _ (by omega), sum_rep l, Nat.add_assoc]
theorem sumW_rep (s : ByteArray) : sumW s = (rep (tot s.data.toList) : Nat) := by
  have := sum_rep s.data.toList 0
  rw [Nat.zero_add] at this
  exact this
theorem tot_app : ∀ (l r : List UInt8), l.length % 2 = 0 → tot (l ++ r) = tot l + tot r
  | [], r, _ => by simp [tot]
  | [a], r, h => by simp at h
  | a :: b :: l, r, h => by simp [tot, tot_app l r (by simp at h; omega)]; omega
theorem rep_zero (n : Nat) : rep n = 0 ↔ n = 0 := by unfold rep; split <;> omega
/-- The law of the update, on plain sums: one word b of the sum becomes a. -/
theorem upd_rep (n b a : Nat) (hb : b ≤ 65535) (ha : a ≤ 65535) (hn : b ≤ n) (h0 : n - b + a ≠ 0) :
    65535 - addS (addS (65535 - (65535 - (rep n : Nat))) (65535 - (b : Nat))) (a : Nat) = 65535 - ((rep (n - b + a) : Nat) : Int) := by
  have hr := rep_le n
  rw [show (65535 : Int) - (65535 - (rep n : Nat)) = (rep n : Nat) from by omega, show (65535 : Int) - (b : Nat) = ((65535 - b : Nat) : Int) from by omega, rep_add _ _ (by omega), rep_add _ _ ha]
  have e : rep (n + (65535 - b) + a) = rep (n - b + a) := by
    rw [rep_pos _ h0, rep_pos _ (by omega)]
    omega
  rw [e]

end Go.Proofs.Ytbidaccdjnbhfaa

/- Putting bytes into a string: its bytes, its length, and what can be read there. -/
namespace Go.Proofs.Ytbidaccdjnbhfaa

theorem put_list (s t : ByteArray) (p : Nat) (h : p + t.size ≤ s.size) : (put s p t).data.toList = s.data.toList.take p ++ t.data.toList ++ s.data.toList.drop (p + t.size) := by
  have e : put s p t = s.extract 0 p ++ t ++ s.extract (p + t.size) s.size := by
    unfold put; rw [if_pos (by omega)]; rfl
  rw [e, append_list, append_list]
  simp only [ByteArray.data_extract, Array.toList_extract, List.extract_eq_take_drop, Nat.sub_zero, List.drop_zero]
  congr 1
  rw [List.take_of_length_le]
  simp
theorem put_size (s t : ByteArray) (p : Nat) (h : p + t.size ≤ s.size) : (put s p t).size = s.size := by
  have := congrArg List.length (put_list s t p h)
  simp at this
  have h1 : (put s p t).data.size = (put s p t).size := rfl
  have h2 : t.data.size = t.size := rfl
  omega
theorem byte_put_in (s t : ByteArray) (p : Nat) (h : p + t.size ≤ s.size) (j : Nat) (hj : j < t.size) : byteI (put s p t) (p + j) = byteI t j := by
  have h2 : t.data.toList.length = t.size := by simp
  have h1 : (s.data.toList.take p).length = p := by simp; omega
  unfold byteI
  rw [put_list s t p h, List.append_assoc, List.getD_eq_getElem?_getD, List.getElem?_append_right (by omega), h1, List.getElem?_append_left (by omega), ← List.getD_eq_getElem?_getD, Nat.add_sub_cancel_left]
theorem byte_put_out (s t : ByteArray) (p : Nat) (h : p + t.size ≤ s.size) (j : Nat) (hj : j < p ∨ p + t.size ≤ j) : byteI (put s p t) j = byteI s j := by
  have h2 : t.data.toList.length = t.size := by simp
  have h1 : (s.data.toList.take p).length = p := by simp; omega
  unfold byteI
  rw [put_list s t p h, List.getD_eq_getElem?_getD, List.getD_eq_getElem?_getD]
  rcases hj with hj | hj
  · rw [List.append_assoc, List.getElem?_append_left (by omega), List.getElem?_take, if_pos hj]
  · rw [List.getElem?_append_right (by rw [List.length_append]; omega), List.getElem?_drop, List.length_append, h1, h2, show p + t.size + (j - (p + t.size)) = j from by omega]
theorem get16_put (s : ByteArray) (p : Nat) (v : Int) (h : p + 2 ≤ s.size) (hv : 0 ≤ v ∧ v ≤ 65535) : get16 (put s p (w16 v)) p = v := by
  have hz : (w16 v).size = 2 := rfl
  rw [get16_in _ _ (by rw [put_size s _ p (by omega)]; exact h)]
  have h0 := byte_put_in s (w16 v) p (by omega) 0 (by omega)
  have h1 := byte_put_in s (w16 v) p (by omega) 1 (by omega)
  rw [Nat.add_zero] at h0
  rw [h0, h1]
  show ((low (v / 256)).toNat : Int) * 256 + ((low v).toNat : Int) = v
  rw [low_toNat, low_toNat]
  omega
theorem tot_put (s : ByteArray) (k a : Nat) (h : k + 2 ≤ s.size) (he : k % 2 = 0) (ha : a ≤ 65535) :
    ∃ b : Nat, get16 s k = b ∧ b ≤ 65535 ∧ b ≤ tot s.data.toList ∧ tot (put s k (w16 a)).data.toList = tot s.data.toList - b + a := by
  have hz : (w16 a).size = 2 := rfl
  have hb := get16_bd s k h
  refine ⟨(get16 s k).toNat, by omega, by omega, ?_⟩
  have hl : s.data.toList = s.data.toList.take k ++ ([s[k]'(by omega), s[k + 1]'(by omega)] ++ s.data.toList.drop (k + 2)) := by
    conv => lhs; rw [← List.take_append_drop k s.data.toList]
    congr 1
    rw [List.drop_eq_getElem_cons (by simp; omega), List.drop_eq_getElem_cons (by simp; omega)]
    rfl
  have hg : get16 s k = ((s[k]'(by omega)).toNat : Int) * 256 + ((s[k + 1]'(by omega)).toNat : Int) := by rw [get16_in s k h, byteI_at s k (by omega), byteI_at s (k + 1) (by omega)]
  have ht : tot s.data.toList = tot (s.data.toList.take k) + ((get16 s k).toNat + tot (s.data.toList.drop (k + 2))) := by
    conv => lhs; rw [hl]
    rw [tot_app _ _ (by simp; omega), hg]
    simp only [List.cons_append, List.nil_append, tot]
    omega
  have hp : tot (put s k (w16 a)).data.toList = tot (s.data.toList.take k) + (a + tot (s.data.toList.drop (k + 2))) := by
    rw [put_list s (w16 a) k (by omega), List.append_assoc, tot_app _ _ (by simp; omega), hz]
    have hw : (w16 (a : Int)).data.toList = [low ((a : Int) / 256), low (a : Int)] := rfl
    have l1 := low_toNat ((a : Int) / 256)
    have l2 := low_toNat (a : Int)
    rw [hw]
    simp only [List.cons_append, List.nil_append, tot]
    omega
  rw [ht, hp]
  omega
theorem upd_law (s : ByteArray) (k a : Nat) (h : k + 2 ≤ s.size) (he : k % 2 = 0) (ha : a ≤ 65535) :
    (sumW (put s k (w16 a)) = 0 → a = 0) ∧ (sumW (put s k (w16 a)) ≠ 0 → updS (65535 - sumW s) (get16 s k) a = 65535 - sumW (put s k (w16 a))) := by
  obtain ⟨b, hb, hb1, hb2, ht⟩ := tot_put s k a h he ha
  have hs := sumW_bd s
  rw [sumW_rep (put s k (w16 a)), ht]
  refine ⟨fun h0 => ?_, fun h0 => ?_⟩
  · have := (rep_zero (tot s.data.toList - b + a)).1 (by omega)
    omega
  · have h1 : tot s.data.toList - b + a ≠ 0 := fun e => h0 (by rw [e]; rfl)
    unfold updS
    rw [if_pos (by omega), hb, sumW_rep s]
    exact upd_rep _ b a hb1 ha hb2 h1

end Go.Proofs.Ytbidaccdjnbhfaa

/- The bytes of a segment: the plain mathematics. -/
namespace Go.Proofs.Ytbidaccdjnbhfaa
/-- The bytes of a segment with a given checksum. -/
def SegM.udp (g : SegM) (c : Int) : ByteArray := w16 g.sport ++ w16 g.dport ++ w16 (8 + (g.body.size : Int)) ++ w16 c ++ g.body
def SegM.tcp (g : SegM) (c : Int) : ByteArray := w16 g.sport ++ w16 g.dport ++ w32 g.seq ++ w32 g.ack ++ two 80 (g.flags % 256) ++ w16 g.window ++ w16 c ++ w16 0 ++ g.body
def SegM.withSum (g : SegM) (c : Int) : ByteArray := if g.kind = 17 then g.udp c else g.tcp c
theorem SegM.udp_size (g : SegM) (c : Int) : (g.udp c).size = 8 + g.body.size := by
  unfold SegM.udp
  simp only [ByteArray.size_append]
  rfl
theorem SegM.tcp_size (g : SegM) (c : Int) : (g.tcp c).size = 20 + g.body.size := by
  unfold SegM.tcp
  simp only [ByteArray.size_append]
  rfl
theorem put_mid (A B C T : ByteArray) (p : Nat) (hp : A.size = p) (hT : T.size = B.size) : put (A ++ B ++ C) p T = A ++ T ++ C := by
  have hl : (put (A ++ B ++ C) p T).data.toList = (A ++ T ++ C).data.toList := by
    rw [put_list (A ++ B ++ C) T p (by simp only [ByteArray.size_append]; omega)]
    have hA : A.data.toList.length = p := by rw [← hp]; simp
    have hB : B.data.toList.length = T.size := by rw [hT]; simp
    simp only [ByteArray.data_append, Array.toList_append, List.append_assoc]
    rw [List.take_append_of_le_length (by omega), List.take_of_length_le (by omega), List.drop_append, hA, List.drop_of_length_le (by omega), List.nil_append,
      show p + T.size - p = B.data.toList.length from by omega, List.drop_left]
  exact WideShapes.bytes_inj hl
theorem put_udp (g : SegM) (c : Int) : put (g.udp 0) 6 (w16 c) = g.udp c := by
  unfold SegM.udp
  exact put_mid (w16 g.sport ++ w16 g.dport ++ w16 (8 + (g.body.size : Int))) (w16 0) g.body (w16 c) 6 rfl rfl
theorem put_tcp (g : SegM) (c : Int) : put (g.tcp 0) 16 (w16 c) = g.tcp c := by
  unfold SegM.tcp
  rw [ByteArray.append_assoc (c := g.body), ByteArray.append_assoc (c := g.body)]
  exact put_mid (w16 g.sport ++ w16 g.dport ++ w32 g.seq ++ w32 g.ack ++ two 80 (g.flags % 256) ++ w16 g.window) (w16 0) (w16 0 ++ g.body) (w16 c) 16 rfl rfl
theorem tcp_zero (g : SegM) : w16 g.sport ++ w16 g.dport ++ w32 g.seq ++ w32 g.ack ++ two 80 (g.flags % 256) ++ w16 g.window ++ w32 0 ++ g.body = g.tcp 0 := by
  unfold SegM.tcp
  rw [show w32 0 = w16 0 ++ w16 0 from rfl]
  simp only [ByteArray.append_assoc]
def SegM.len (g : SegM) : Int := ((g.withSum 0).size : Int)
/-- The checksum that is written. -/
def SegM.raw (g : SegM) (s d : Int) : Int := 65535 - sumW (pseudoB s d g.kind g.len ++ g.withSum 0)
def SegM.check (g : SegM) (s d : Int) : Int := if g.raw s d = 0 ∧ g.kind = 17 then 65535 else g.raw s d
theorem SegM.raw_bd (g : SegM) (s d : Int) : 0 ≤ g.raw s d ∧ g.raw s d ≤ 65535 := by
  have := sumW_bd (pseudoB s d g.kind g.len ++ g.withSum 0)
  unfold SegM.raw
  omega
theorem SegM.check_bd (g : SegM) (s d : Int) : 0 ≤ g.check s d ∧ g.check s d ≤ 65535 := by
  have := g.raw_bd s d
  unfold SegM.check
  split <;> omega
def SegM.OkB (g : SegM) (s d : Int) : Prop := g.Ok ∧ pseudoOk s d g.kind g.len
instance (g : SegM) (s d : Int) : Decidable (g.OkB s d) := by unfold SegM.OkB; infer_instance
def SegM.built (g : SegM) (s d : Int) : ByteArray := if g.OkB s d then g.withSum (g.check s d) else ⟨#[]⟩
end Go.Proofs.Ytbidaccdjnbhfaa

/- Contracts of the model's changes of byte strings, and of its sums. -/
namespace Go.Proofs.Ytbidaccdjnbhfaa
open Go.RowKit

theorem spec_add (a b : Int) (w : World) (ha : -9223372036854775808 ≤ a ∧ a ≤ 9223372036854775807) (hb : -9223372036854775808 ≤ b ∧ b ≤ 9223372036854775807) :
    Calls Try.prog 153 #[.int .i64 a, .int .i64 b] w fun e w' => e = .returned (.int .i64 (addS a b)) ∧ w = w' := by
  by_cases h1 : 0 ≤ a
  · by_cases h2 : a ≤ 65535
    · by_cases h3 : 0 ≤ b
      · by_cases h4 : b ≤ 65535
        · by_cases h5 : 65535 < a + b
          all_goals
            go_enter Try.func153, Try.ntmps153
            go_wp2
            go_ret
            exact ⟨ret_int (by unfold addS; rw [if_pos ⟨h1, h2, h3, h4⟩]; first | rw [if_pos (by omega)] | rw [if_neg (by omega)]), rfl⟩
        · go_enter Try.func153, Try.ntmps153
          go_wp2
          go_ret
          exact ⟨ret_int (by unfold addS; rw [if_neg (by omega)]), rfl⟩
      · go_enter Try.func153, Try.ntmps153
        go_wp2
        go_ret
        exact ⟨ret_int (by unfold addS; rw [if_neg (by omega)]), rfl⟩
    · go_enter Try.func153, Try.ntmps153
      go_wp2
      go_ret
      exact ⟨ret_int (by unfold addS; rw [if_neg (by omega)]), rfl⟩
  · go_enter Try.func153, Try.ntmps153
    go_wp2
    go_ret
    exact ⟨ret_int (by unfold addS; rw [if_neg (by omega)]), rfl⟩

theorem spec_put (s t : ByteArray) (p : Int) (w : World) (hs : s.size ≤ 4194304) (ht : t.size ≤ 4194304) (hp : -9223372036854775808 ≤ p ∧ p ≤ 9223372036854775807) :
    Calls Try.prog 127 #[.string s, .int .i64 p, .string t] w fun e w' => e = .returned (.string (put s p t)) ∧ ∃ m, w' = w.drewN m := by
  by_cases h : 0 ≤ p ∧ p + t.size ≤ s.size
  · obtain ⟨n, rfl⟩ : ∃ n : Nat, p = n := ⟨p.toNat, by omega⟩
    have h1 : n + t.size ≤ s.size := by omega
    have HG : Hid (put s n t = s.extract 0 n ++ t ++ s.extract (n + t.size) s.size) := Lib.hid (by unfold put; rw [if_pos h]; rfl)
    have z1 : (s.extract 0 n).size = n := by rw [ByteArray.size_extract]; omega
    have z2 : (s.extract 0 n ++ t).size ≤ 8388608 := by rw [ByteArray.size_append]; omega
    have z3 : (s.extract (n + t.size) s.size).size ≤ 4194304 := by rw [ByteArray.size_extract]; omega
    have Z1 : (s.extract 0 n).size ≤ 4194304 := by omega
    have c1 : (n : Int) ≤ (s.size : Int) := by omega
    have c2 : (t.size : Int) ≤ (s.size : Int) - (n : Int) := by omega
    clear z1
    go_enter Try.func127, Try.ntmps127
    go_wp2_with go_in
    go_quiet (fail)
    go_wp2
    go_ret
    exact ⟨by rw [HG.out]; rfl, _, rfl⟩
  · have HG : Hid (put s p t = s) := Lib.hid (by unfold put; rw [if_neg h])
    by_cases h0 : 0 ≤ p
    · by_cases h1 : p ≤ (s.size : Int)
      · have h2 : ¬ (t.size : Int) ≤ (s.size : Int) - p := by omega
        clear h
        go_enter Try.func127, Try.ntmps127
        go_wp2
        go_ret
        exact ⟨by rw [HG.out]; rfl, 0, rfl⟩
      · clear h
        go_enter Try.func127, Try.ntmps127
        go_wp2
        go_ret
        exact ⟨by rw [HG.out]; rfl, 0, rfl⟩
    · clear h
      go_enter Try.func127, Try.ntmps127
      go_wp2
      go_ret
      exact ⟨by rw [HG.out]; rfl, 0, rfl⟩

theorem spec_sum (s : ByteArray) (w : World) (hs : s.size ≤ 4194304) :
    Calls Try.prog 140 #[.string s] w fun e w' => e = .returned (.int .i64 (sumW s)) ∧ w = w' := by
  go_enter Try.func140, Try.ntmps140
  go_wp2
  go_loop [3, 4] (fun t i => ∃ m : Nat, i = .int .i64 m ∧ m % 2 = 0 ∧ m ≤ s.size + 1 ∧ ∃ a : Int, t = .int .i64 a ∧ 0 ≤ a ∧ a ≤ 65535 ∧ Hid (a = sumL 0 (s.data.toList.take m))) (fun _ i => s.size + 2 - (intOf i).toNat)
  case atStart => exact ⟨0, rfl, rfl, by omega, 0, rfl, by omega, by omega, Lib.hid rfl⟩
  case round =>
    obtain ⟨m, rfl, he, hm, a, rfl, a0, a1, HA⟩ := hrel
    have HE := Lib.hid he
    clear he
    by_cases hlt : m < s.size
    · have b1 : s[m].toNat < 256 := UInt8.toNat_lt _
      by_cases h2 : m + 1 < s.size
      · have b2 : s[m + 1].toNat < 256 := UInt8.toNat_lt _
        have HS : Hid (addS a ((s[m].toNat : Int) * 256 + (s[m + 1].toNat : Int)) = sumL 0 (s.data.toList.take (m + 2))) := Lib.hid (by
          rw [sum_two s m h2 HE.out, ← HA.out, byteI_at s m hlt, byteI_at s (m + 1) h2])
        have hb := addS_in a ((s[m].toNat : Int) * 256 + (s[m + 1].toNat : Int)) ⟨a0, a1, by omega, by omega⟩
        go_wp2_with (go_at_call 153; refine (spec_add _ _ _ (by omega) (by omega)).mono ?_; rintro e w' ⟨rfl, rfl⟩)
        go_round
        case rel => exact ⟨m + 2, by go_num, by have := HE.out; omega, by omega, _, rfl, hb.1, hb.2, HS⟩
        case measure => simp [intOf] <;> omega
      · have h2' : m + 1 = s.size := by omega
        have HS : Hid (addS a ((s[m].toNat : Int) * 256) = sumL 0 (s.data.toList.take (m + 2))) := Lib.hid (by
          rw [List.take_of_length_le (by simp; omega), sum_one s m h2' HE.out, ← HA.out, byteI_at s m hlt])
        have hb := addS_in a ((s[m].toNat : Int) * 256) ⟨a0, a1, by omega, by omega⟩
        clear h2'
        go_wp2_with (go_at_call 153; refine (spec_add _ _ _ (by omega) (by omega)).mono ?_; rintro e w' ⟨rfl, rfl⟩)
        go_round
        case rel => exact ⟨m + 2, by go_num, by have := HE.out; omega, by omega, _, rfl, hb.1, hb.2, HS⟩
        case measure => simp [intOf] <;> omega
    · have HS : Hid (a = sumW s) := Lib.hid (by have := HA.out; rw [List.take_of_length_le (by simp; omega)] at this; exact this)
      go_wp2
      go_ret
      exact ⟨ret_int HS.out, rfl⟩

theorem spec_checksum (s : ByteArray) (w : World) (hs : s.size ≤ 4194304) :
    Calls Try.prog 126 #[.string s] w fun e w' => e = .returned (.int .i64 (65535 - sumW s)) ∧ w = w' := by
  have hb := sumW_bd s
  obtain ⟨b0, b1⟩ := hb
  go_enter Try.func126, Try.ntmps126
  go_wp2_with (go_at_call 140; refine (spec_sum s _ hs).mono ?_; rintro e w' ⟨rfl, rfl⟩)
  go_ret
  exact ⟨rfl, rfl⟩

end Go.Proofs.Ytbidaccdjnbhfaa

/- One contract for each function of the model's sums: its value at every argument, and what was there stays. -/
namespace Go.Proofs.Ytbidaccdjnbhfaa
open Go.RowKit

theorem spec_put_any (s : ByteArray) (p : Int) (t : ByteArray) (w : World) (hs : s.size ≤ 4194304) (ht : t.size ≤ 4194304) (hp : -9223372036854775808 ≤ p ∧ p ≤ 9223372036854775807) :
    Calls Try.prog 127 #[.string s, .int .i64 p, .string t] w fun e w' => e = .returned (.string (put s p t)) ∧ Below w.heap.size w w' :=
  (spec_put s t p w hs ht hp).mono fun _ _ ⟨h1, m, h2⟩ => ⟨h1, h2 ▸ below_of_drewN w m⟩
theorem spec_add_any (a b : Int) (w : World) (ha : -9223372036854775808 ≤ a ∧ a ≤ 9223372036854775807) (hb : -9223372036854775808 ≤ b ∧ b ≤ 9223372036854775807) :
    Calls Try.prog 153 #[.int .i64 a, .int .i64 b] w fun e w' => e = .returned (.int .i64 (addS a b)) ∧ Below w.heap.size w w' :=
  (spec_add a b w ha hb).mono fun _ _ hh => ⟨hh.1, hh.2 ▸ Below.refl _ _⟩
theorem spec_sum_any (s : ByteArray) (w : World) (hs : s.size ≤ 4194304) :
    Calls Try.prog 140 #[.string s] w fun e w' => e = .returned (.int .i64 (sumW s)) ∧ Below w.heap.size w w' :=
  (spec_sum s w hs).mono fun _ _ hh => ⟨hh.1, hh.2 ▸ Below.refl _ _⟩
theorem spec_checksum_any (s : ByteArray) (w : World) (hs : s.size ≤ 4194304) :
    Calls Try.prog 126 #[.string s] w fun e w' => e = .returned (.int .i64 (65535 - sumW s)) ∧ Below w.heap.size w w' :=
  (spec_checksum s w hs).mono fun _ _ hh => ⟨hh.1, hh.2 ▸ Below.refl _ _⟩
end Go.Proofs.Ytbidaccdjnbhfaa

/- The model's BuildSegment, at segments that can be sent. -/
namespace Go.Proofs.Ytbidaccdjnbhfaa
open Go.RowKit
set_option linter.unusedSimpArgs false
set_option linter.unusedVariables false

set_option maxHeartbeats 4000000 in
set_option maxRecDepth 100000 in
theorem spec_seg_udp_yes (s d sp dp q c f n : Int) (b : ByteArray) (w : World) (hok : SegM.Ok ⟨17, sp, dp, q, c, f, n, b⟩) (hp :  pseudoOk s d 17 (SegM.len ⟨17, sp, dp, q, c, f, n, b⟩)) :
    Calls Try.prog 113 #[.int .i64 s, .int .i64 d, .agg #[.int .i64 17, .int .i64 sp, .int .i64 dp, .int .i64 q, .int .i64 c, .int .i64 f, .int .i64 n, .string b]] w fun r w' => r = .returned (.tuple #[.string (SegM.udp ⟨17, sp, dp, q, c, f, n, b⟩ (SegM.check ⟨17, sp, dp, q, c, f, n, b⟩ s d)), .bool true]) ∧ Below w.heap.size w w' := by
  have HV : Hid (∀ w1, Calls Try.prog 97 #[.agg #[.int .i64 17, .int .i64 sp, .int .i64 dp, .int .i64 q, .int .i64 c, .int .i64 f, .int .i64 n, .string b]] w1 fun r w' => r = .returned (.bool true) ∧ Below w1.heap.size w1 w') := Lib.hid fun w1 => by have := spec_segmentok ⟨17, sp, dp, q, c, f, n, b⟩ w1; rwa [decide_eq_true hok] at this
  obtain ⟨h1, h2, h7, hk⟩ := hok
  dsimp only at h1 h2 h7 hk
  have HP := Lib.hid hp
  clear hp
  clear hk
  have HWsp := Lib.hid fun W => (by have := spec_word16 sp W; rwa [word16_in _ h1] at this : Calls Try.prog 83 #[.int .i64 sp] W fun r w' => r = .returned (.string (w16 sp)) ∧ Below W.heap.size W w')
  have HWdp := Lib.hid fun W => (by have := spec_word16 dp W; rwa [word16_in _ h2] at this : Calls Try.prog 83 #[.int .i64 dp] W fun r w' => r = .returned (.string (w16 dp)) ∧ Below W.heap.size W w')
  have HWl := Lib.hid fun W => (by have := spec_word16 (8 + (b.size : Int)) W; rwa [word16_in _ (by omega)] at this : Calls Try.prog 83 #[.int .i64 (8 + (b.size : Int))] W fun r w' => r = .returned (.string (w16 (8 + (b.size : Int)))) ∧ Below W.heap.size W w')
  have HW0 := Lib.hid fun W => (by have := spec_word16 0 W; rwa [word16_in _ (by decide)] at this : Calls Try.prog 83 #[.int .i64 0] W fun r w' => r = .returned (.string (w16 0)) ∧ Below W.heap.size W w')
  have z1 : (w16 sp).size ≤ 2 := Nat.le_refl _
  have z2 : (w16 dp).size ≤ 2 := Nat.le_refl _
  have z3 : (w16 0).size ≤ 2 := Nat.le_refl _
  have z4 : (w16 (8 + (b.size : Int))).size ≤ 2 := Nat.le_refl _
  clear h1 h2
  go_enter Try.func113, Try.ntmps113
  go_wp2_with (go_at_call 97; refine (HV.out _).mono ?_; rintro e w1 ⟨rfl, hb1⟩)
  have hg1 : w.heap.size < w1.heap.size := by have := hb1.size; simp at this; omega
  have HB1 := Lib.hid ((Box.new w #[.int .i64 17, .int .i64 sp, .int .i64 dp, .int .i64 q, .int .i64 c, .int .i64 f, .int .i64 n, .string b] 39).below hb1 (by simp))
  have hb01 := below_comp (below_new _) hb1
  clear hb1
  refine wp_region_values (by kernel_rfl) (fun W => Below w1.heap.size w1 W) (Vals [.pointer (some ⟨w.heap.size, 1, none⟩), .int .i64 sp, .string (w16 sp), .pointer (some ⟨w.heap.size, 2, none⟩), .int .i64 dp, .string (w16 dp), .string ((w16 sp) ++ (w16 dp)), .string ((w16 sp) ++ (w16 dp))] [])
    88 rfl (by kernel_rfl) (by kernel_rfl) below_drew (eachOp_all ?_) ?_
  · refine ⟨?_, ?_, ?_, ?_, ?_, ?_, ?_, ?_, trivial⟩
    · intro a W hd hS hdep hfree
      have x5 : a.tmps.getD 5 undef = .pointer (some ⟨w.heap.size, 0, none⟩) := hfree 5 rfl
      clear hd hdep hfree
      simp only [Oper.wp, execOp]
      go_simp
      refine Nxt.mk _ rfl (fun _ _ => ?_) hS (fun _ _ h => h)
      rfl
    · intro a W hd hS hdep hfree
      have x16 : a.tmps.getD 16 undef = .pointer (some ⟨w.heap.size, 1, none⟩) := hdep 0 16 rfl rfl
      clear hd hdep hfree
      have c : W.cell? ⟨w.heap.size, 1, none⟩ = some (.int .i64 sp) := (HB1.out.below hS hg1).cell 1 (by simp)
      simp only [Oper.wp, execOp]
      go_simp
      refine Nxt.mk _ rfl (fun _ _ => ?_) hS (fun _ _ h => h)
      rfl
    · intro a W hd hS hdep hfree
      have x17 : a.tmps.getD 17 undef = .int .i64 sp := hdep 1 17 rfl rfl
      clear hd hdep hfree
      simp only [Oper.wp, execOp]
      go_simp
      refine (HWsp.out W).mono ?_
      rintro e W' ⟨rfl, hb⟩
      exact Nxt.mk _ rfl (fun _ _ => rfl) (below_comp hS hb) (fun j u h => Vals.below hb j u h)
    · intro a W hd hS hdep hfree
      have x5 : a.tmps.getD 5 undef = .pointer (some ⟨w.heap.size, 0, none⟩) := hfree 5 rfl
      clear hd hdep hfree
      simp only [Oper.wp, execOp]
      go_simp
      refine Nxt.mk _ rfl (fun _ _ => ?_) hS (fun _ _ h => h)
      rfl
    · intro a W hd hS hdep hfree
      have x19 : a.tmps.getD 19 undef = .pointer (some ⟨w.heap.size, 2, none⟩) := hdep 3 19 rfl rfl
      clear hd hdep hfree
      have c : W.cell? ⟨w.heap.size, 2, none⟩ = some (.int .i64 dp) := (HB1.out.below hS hg1).cell 2 (by simp)
      simp only [Oper.wp, execOp]
      go_simp
      refine Nxt.mk _ rfl (fun _ _ => ?_) hS (fun _ _ h => h)
      rfl
    · intro a W hd hS hdep hfree
      have x20 : a.tmps.getD 20 undef = .int .i64 dp := hdep 4 20 rfl rfl
      clear hd hdep hfree
      simp only [Oper.wp, execOp]
      go_simp
      refine (HWdp.out W).mono ?_
      rintro e W' ⟨rfl, hb⟩
      exact Nxt.mk _ rfl (fun _ _ => rfl) (below_comp hS hb) (fun j u h => Vals.below hb j u h)
    · intro a W hd hS hdep hfree
      have x18 : a.tmps.getD 18 undef = .string (w16 sp) := hdep 2 18 rfl rfl
      have x21 : a.tmps.getD 21 undef = .string (w16 dp) := hdep 5 21 rfl rfl
      clear hd hdep hfree
      have k : ¬ 9223372036854775807 < (w16 sp).size + (w16 dp).size := by (try simp only [ByteArray.size_append]); omega
      have k2 := k
      try simp only [ByteArray.size_append] at k2
      simp only [Oper.wp, execOp]
      go_simp
      refine Nxt.mk _ rfl (fun _ _ => ?_) hS (fun _ _ h => h)
      rfl
    · intro a W hd hS hdep hfree
      have x22 : a.tmps.getD 22 undef = .string ((w16 sp) ++ (w16 dp)) := hdep 6 22 rfl rfl
      clear hd hdep hfree
      simp only [Oper.wp, execOp]
      go_simp
      refine Nxt.mk _ rfl (fun _ _ => ?_) hS (fun _ _ h => h)
      rfl
  intro a W2 hs hd hS2 hdone hrest
  have ea := written_all [.pointer (some ⟨w.heap.size, 1, none⟩), .int .i64 sp, .string (w16 sp), .pointer (some ⟨w.heap.size, 2, none⟩), .int .i64 dp, .string (w16 dp), .string ((w16 sp) ++ (w16 dp)), .string ((w16 sp) ++ (w16 dp))] rfl hs hd hrest hdone
  clear hs hd hdone hrest
  subst ea
  simp only [written, List.map_cons, List.map_nil, List.zip_cons_cons, List.zip_nil_right, putAll]
  simp only [Exit.then, Act.put, List.setIfInBounds_toArray, List.set_cons_zero, List.set_cons_succ]
  have hg2 : w.heap.size < W2.heap.size := Nat.lt_of_lt_of_le hg1 hS2.size
  have HB2 := Lib.hid (HB1.out.below hS2 hg1)
  have hb02 := below_comp hb01 hS2
  have c0 : W2.cell? ⟨w.heap.size, 0, none⟩ = some (.int .i64 17) := HB2.out.cell 0 (by simp)
  clear hS2

  have c7 : W2.cell? ⟨w.heap.size, 7, none⟩ = some (.string b) := HB2.out.cell 7 (by simp)
  go_upto_region 9 with (first
    | (go_at_call_of 83 (Value.int .i64 0); refine (HW0.out _).mono ?_; rintro e W3 ⟨rfl, hb3b⟩)
    | (go_at_call 83; refine (HWl.out _).mono ?_; rintro e W2b ⟨rfl, hb3a⟩))
  have hS3 := below_comp hb3a hb3b
  clear c0 c7 hb3a hb3b
  have hg3 : w.heap.size < W3.heap.size := Nat.lt_of_lt_of_le hg2 hS3.size
  have HB3 := Lib.hid (HB2.out.below hS3 hg2)
  have hb03 := below_comp hb02 hS3
  clear hS3
  obtain ⟨U, HU⟩ : ∃ U : ByteArray, Hid (U = w16 sp ++ w16 dp ++ w16 (8 + (b.size : Int)) ++ w16 0) := ⟨_, Lib.hid rfl⟩
  rw [← HU.out]
  obtain ⟨T, HT⟩ : ∃ T : ByteArray, Hid (U ++ b = T ∧ T = SegM.udp ⟨17, sp, dp, q, c, f, n, b⟩ 0) := ⟨_, Lib.hid ⟨rfl, by rw [HU.out]; exact rfl⟩⟩
  have hU : U.size ≤ 20 := by rw [HU.out]; simp only [ByteArray.size_append]; omega
  have HL : Hid (SegM.len ⟨17, sp, dp, q, c, f, n, b⟩ = (T.size : Int)) := Lib.hid (by rw [HT.out.2]; rfl)
  have hT : T.size ≤ 340 := by rw [HT.out.2, SegM.udp_size]; show _ + b.size ≤ 340; omega
  have c0 : W3.cell? ⟨w.heap.size, 0, none⟩ = some (.int .i64 17) := HB3.out.cell 0 (by simp)
  have c7 : W3.cell? ⟨w.heap.size, 7, none⟩ = some (.string b) := HB3.out.cell 7 (by simp)
  have k1 : ¬ 9223372036854775807 < U.size + b.size := by omega
  go_wp2_with fail
  have hLe : (U.size : Int) + (b.size : Int) = (T.size : Int) := by rw [← HT.out.1, ByteArray.size_append]; omega
  rw [HT.out.1, hLe]
  clear hLe k1 hU

  refine (spec_pseudo_yes s d 17 (T.size : Int) _ (by rw [← HL.out]; exact HP.out)).mono ?_
  obtain ⟨P, HPP, hPs⟩ : ∃ P : ByteArray, Hid (pseudoB s d 17 (T.size : Int) = P) ∧ P.size ≤ 12 := ⟨_, Lib.hid rfl, by rw [pseudo_size]; omega⟩
  rw [HPP.out]
  rintro e w4 ⟨rfl, hb4⟩
  obtain ⟨hc, hf, _⟩ := bcell hb4
  have hg4 : w.heap.size < w4.heap.size := Nat.lt_of_lt_of_le hg3 hb4.size
  obtain ⟨X, HX⟩ : ∃ X : Int, Hid (65535 - sumW (P ++ T) = X) := ⟨_, Lib.hid rfl⟩
  have hX : 0 ≤ X ∧ X ≤ 65535 := by have := sumW_bd (P ++ T); rw [← HX.out]; omega
  have HCk := Lib.hid fun W => (by have := spec_checksum_any (P ++ T) W (by rw [ByteArray.size_append]; omega); rwa [HX.out] at this : Calls Try.prog 126 #[.string (P ++ T)] W fun r w' => r = .returned (.int .i64 X) ∧ Below W.heap.size W w')
  have HRaw : Hid (SegM.raw ⟨17, sp, dp, q, c, f, n, b⟩ s d = X) := Lib.hid (by unfold SegM.raw; rw [HL.out, ← HX.out, ← HPP.out]; show 65535 - sumW (_ ++ SegM.udp _ 0) = _; rw [← HT.out.2])
  have k2 : ¬ 9223372036854775807 < P.size + T.size := by omega
  have HXb := Lib.hid hX
  rcases (show X = 0 ∨ X ≠ 0 by omega) with hx | hx
  case' inl =>
    obtain ⟨V, HVV, hV⟩ : ∃ V : Int, Hid (V = 65535 ∧ SegM.check ⟨17, sp, dp, q, c, f, n, b⟩ s d = V) ∧ 0 ≤ V ∧ V ≤ 65535 := ⟨65535, Lib.hid ⟨rfl, by unfold SegM.check; rw [HRaw.out, hx]; rfl⟩, by decide⟩
    subst hx
  case' inr =>
    have e0 : (X == 0) = false := by rw [beq_eq_false_iff_ne]; exact hx
    obtain ⟨V, HVV, hV⟩ : ∃ V : Int, Hid (V = X ∧ SegM.check ⟨17, sp, dp, q, c, f, n, b⟩ s d = V) ∧ 0 ≤ V ∧ V ≤ 65535 := ⟨X, Lib.hid ⟨rfl, by unfold SegM.check; rw [HRaw.out, if_neg (fun h => hx h.1)]⟩, hX⟩
    have hxi := Lib.hid hx
    clear hx
  all_goals
    have HWV := Lib.hid fun W => (by have := spec_word16 V W; rwa [word16_in _ hV] at this : Calls Try.prog 83 #[.int .i64 V] W fun r w' => r = .returned (.string (w16 V)) ∧ Below W.heap.size W w')
    have HPV := Lib.hid fun W => spec_put_any T 6 (w16 V) W (by omega) (by show 2 ≤ 4194304; decide) (by decide)
    have hzV : (w16 V).size ≤ 2 := Nat.le_refl _
    rw [HVV.out.1] at HWV HPV
    clear hV hX
    go_wp2_with (first
      | (go_at_call 126; refine (HCk.out _).mono ?_; rintro e w5 ⟨rfl, hb5⟩; obtain ⟨hc5, hf5, _⟩ := bcell hb5)
      | (go_at_call 83; refine (HWV.out _).mono ?_; rintro e w6 ⟨rfl, hb6⟩)
      | (go_at_call 127; refine (HPV.out _).mono ?_; rintro e w7 ⟨rfl, hb7⟩))
    go_ret2
    refine ⟨ret_str_bool ?_ rfl, below_comp (below_comp (below_comp (below_comp hb03 hb4) hb5) hb6) hb7⟩
    rw [HVV.out.2, ← HVV.out.1, HT.out.2]
    exact put_udp _ _

set_option maxHeartbeats 4000000 in
set_option maxRecDepth 100000 in
theorem spec_seg_udp_no (s d sp dp q c f n : Int) (b : ByteArray) (w : World) (hok : SegM.Ok ⟨17, sp, dp, q, c, f, n, b⟩) (hp : ¬ pseudoOk s d 17 (SegM.len ⟨17, sp, dp, q, c, f, n, b⟩)) :
    Calls Try.prog 113 #[.int .i64 s, .int .i64 d, .agg #[.int .i64 17, .int .i64 sp, .int .i64 dp, .int .i64 q, .int .i64 c, .int .i64 f, .int .i64 n, .string b]] w fun r w' => r = .returned (.tuple #[.string ⟨#[]⟩, .bool false]) ∧ Below w.heap.size w w' := by
  have HV : Hid (∀ w1, Calls Try.prog 97 #[.agg #[.int .i64 17, .int .i64 sp, .int .i64 dp, .int .i64 q, .int .i64 c, .int .i64 f, .int .i64 n, .string b]] w1 fun r w' => r = .returned (.bool true) ∧ Below w1.heap.size w1 w') := Lib.hid fun w1 => by have := spec_segmentok ⟨17, sp, dp, q, c, f, n, b⟩ w1; rwa [decide_eq_true hok] at this
  obtain ⟨h1, h2, h7, hk⟩ := hok
  dsimp only at h1 h2 h7 hk
  have HP := Lib.hid hp
  clear hp
  clear hk
  have HWsp := Lib.hid fun W => (by have := spec_word16 sp W; rwa [word16_in _ h1] at this : Calls Try.prog 83 #[.int .i64 sp] W fun r w' => r = .returned (.string (w16 sp)) ∧ Below W.heap.size W w')
  have HWdp := Lib.hid fun W => (by have := spec_word16 dp W; rwa [word16_in _ h2] at this : Calls Try.prog 83 #[.int .i64 dp] W fun r w' => r = .returned (.string (w16 dp)) ∧ Below W.heap.size W w')
  have HWl := Lib.hid fun W => (by have := spec_word16 (8 + (b.size : Int)) W; rwa [word16_in _ (by omega)] at this : Calls Try.prog 83 #[.int .i64 (8 + (b.size : Int))] W fun r w' => r = .returned (.string (w16 (8 + (b.size : Int)))) ∧ Below W.heap.size W w')
  have HW0 := Lib.hid fun W => (by have := spec_word16 0 W; rwa [word16_in _ (by decide)] at this : Calls Try.prog 83 #[.int .i64 0] W fun r w' => r = .returned (.string (w16 0)) ∧ Below W.heap.size W w')
  have z1 : (w16 sp).size ≤ 2 := Nat.le_refl _
  have z2 : (w16 dp).size ≤ 2 := Nat.le_refl _
  have z3 : (w16 0).size ≤ 2 := Nat.le_refl _
  have z4 : (w16 (8 + (b.size : Int))).size ≤ 2 := Nat.le_refl _
  clear h1 h2
  go_enter Try.func113, Try.ntmps113
  go_wp2_with (go_at_call 97; refine (HV.out _).mono ?_; rintro e w1 ⟨rfl, hb1⟩)
  have hg1 : w.heap.size < w1.heap.size := by have := hb1.size; simp at this; omega
  have HB1 := Lib.hid ((Box.new w #[.int .i64 17, .int .i64 sp, .int .i64 dp, .int .i64 q, .int .i64 c, .int .i64 f, .int .i64 n, .string b] 39).below hb1 (by simp))
  have hb01 := below_comp (below_new _) hb1
  clear hb1
  refine wp_region_values (by kernel_rfl) (fun W => Below w1.heap.size w1 W) (Vals [.pointer (some ⟨w.heap.size, 1, none⟩), .int .i64 sp, .string (w16 sp), .pointer (some ⟨w.heap.size, 2, none⟩), .int .i64 dp, .string (w16 dp), .string ((w16 sp) ++ (w16 dp)), .string ((w16 sp) ++ (w16 dp))] [])
    88 rfl (by kernel_rfl) (by kernel_rfl) below_drew (eachOp_all ?_) ?_
  · refine ⟨?_, ?_, ?_, ?_, ?_, ?_, ?_, ?_, trivial⟩
    · intro a W hd hS hdep hfree
      have x5 : a.tmps.getD 5 undef = .pointer (some ⟨w.heap.size, 0, none⟩) := hfree 5 rfl
      clear hd hdep hfree
      simp only [Oper.wp, execOp]
      go_simp
      refine Nxt.mk _ rfl (fun _ _ => ?_) hS (fun _ _ h => h)
      rfl
    · intro a W hd hS hdep hfree
      have x16 : a.tmps.getD 16 undef = .pointer (some ⟨w.heap.size, 1, none⟩) := hdep 0 16 rfl rfl
      clear hd hdep hfree
      have c : W.cell? ⟨w.heap.size, 1, none⟩ = some (.int .i64 sp) := (HB1.out.below hS hg1).cell 1 (by simp)
      simp only [Oper.wp, execOp]
      go_simp
      refine Nxt.mk _ rfl (fun _ _ => ?_) hS (fun _ _ h => h)
      rfl
    · intro a W hd hS hdep hfree
      have x17 : a.tmps.getD 17 undef = .int .i64 sp := hdep 1 17 rfl rfl
      clear hd hdep hfree
      simp only [Oper.wp, execOp]
      go_simp
      refine (HWsp.out W).mono ?_
      rintro e W' ⟨rfl, hb⟩
      exact Nxt.mk _ rfl (fun _ _ => rfl) (below_comp hS hb) (fun j u h => Vals.below hb j u h)
    · intro a W hd hS hdep hfree
      have x5 : a.tmps.getD 5 undef = .pointer (some ⟨w.heap.size, 0, none⟩) := hfree 5 rfl
      clear hd hdep hfree
      simp only [Oper.wp, execOp]
      go_simp
      refine Nxt.mk _ rfl (fun _ _ => ?_) hS (fun _ _ h => h)
      rfl
    · intro a W hd hS hdep hfree
      have x19 : a.tmps.getD 19 undef = .pointer (some ⟨w.heap.size, 2, none⟩) := hdep 3 19 rfl rfl
      clear hd hdep hfree
      have c : W.cell? ⟨w.heap.size, 2, none⟩ = some (.int .i64 dp) := (HB1.out.below hS hg1).cell 2 (by simp)
      simp only [Oper.wp, execOp]
      go_simp
      refine Nxt.mk _ rfl (fun _ _ => ?_) hS (fun _ _ h => h)
      rfl
    · intro a W hd hS hdep hfree
      have x20 : a.tmps.getD 20 undef = .int .i64 dp := hdep 4 20 rfl rfl
      clear hd hdep hfree
      simp only [Oper.wp, execOp]
      go_simp
      refine (HWdp.out W).mono ?_
      rintro e W' ⟨rfl, hb⟩
      exact Nxt.mk _ rfl (fun _ _ => rfl) (below_comp hS hb) (fun j u h => Vals.below hb j u h)
    · intro a W hd hS hdep hfree
      have x18 : a.tmps.getD 18 undef = .string (w16 sp) := hdep 2 18 rfl rfl
      have x21 : a.tmps.getD 21 undef = .string (w16 dp) := hdep 5 21 rfl rfl
      clear hd hdep hfree
      have k : ¬ 9223372036854775807 < (w16 sp).size + (w16 dp).size := by (try simp only [ByteArray.size_append]); omega
      have k2 := k
      try simp only [ByteArray.size_append] at k2
      simp only [Oper.wp, execOp]
      go_simp
      refine Nxt.mk _ rfl (fun _ _ => ?_) hS (fun _ _ h => h)
      rfl
    · intro a W hd hS hdep hfree
      have x22 : a.tmps.getD 22 undef = .string ((w16 sp) ++ (w16 dp)) := hdep 6 22 rfl rfl
      clear hd hdep hfree
      simp only [Oper.wp, execOp]
      go_simp
      refine Nxt.mk _ rfl (fun _ _ => ?_) hS (fun _ _ h => h)
      rfl
  intro a W2 hs hd hS2 hdone hrest
  have ea := written_all [.pointer (some ⟨w.heap.size, 1, none⟩), .int .i64 sp, .string (w16 sp), .pointer (some ⟨w.heap.size, 2, none⟩), .int .i64 dp, .string (w16 dp), .string ((w16 sp) ++ (w16 dp)), .string ((w16 sp) ++ (w16 dp))] rfl hs hd hrest hdone
  clear hs hd hdone hrest
  subst ea
  simp only [written, List.map_cons, List.map_nil, List.zip_cons_cons, List.zip_nil_right, putAll]
  simp only [Exit.then, Act.put, List.setIfInBounds_toArray, List.set_cons_zero, List.set_cons_succ]
  have hg2 : w.heap.size < W2.heap.size := Nat.lt_of_lt_of_le hg1 hS2.size
  have HB2 := Lib.hid (HB1.out.below hS2 hg1)
  have hb02 := below_comp hb01 hS2
  have c0 : W2.cell? ⟨w.heap.size, 0, none⟩ = some (.int .i64 17) := HB2.out.cell 0 (by simp)
  clear hS2

  have c7 : W2.cell? ⟨w.heap.size, 7, none⟩ = some (.string b) := HB2.out.cell 7 (by simp)
  go_upto_region 9 with (first
    | (go_at_call_of 83 (Value.int .i64 0); refine (HW0.out _).mono ?_; rintro e W3 ⟨rfl, hb3b⟩)
    | (go_at_call 83; refine (HWl.out _).mono ?_; rintro e W2b ⟨rfl, hb3a⟩))
  have hS3 := below_comp hb3a hb3b
  clear c0 c7 hb3a hb3b
  have hg3 : w.heap.size < W3.heap.size := Nat.lt_of_lt_of_le hg2 hS3.size
  have HB3 := Lib.hid (HB2.out.below hS3 hg2)
  have hb03 := below_comp hb02 hS3
  clear hS3
  obtain ⟨U, HU⟩ : ∃ U : ByteArray, Hid (U = w16 sp ++ w16 dp ++ w16 (8 + (b.size : Int)) ++ w16 0) := ⟨_, Lib.hid rfl⟩
  rw [← HU.out]
  obtain ⟨T, HT⟩ : ∃ T : ByteArray, Hid (U ++ b = T ∧ T = SegM.udp ⟨17, sp, dp, q, c, f, n, b⟩ 0) := ⟨_, Lib.hid ⟨rfl, by rw [HU.out]; exact rfl⟩⟩
  have hU : U.size ≤ 20 := by rw [HU.out]; simp only [ByteArray.size_append]; omega
  have HL : Hid (SegM.len ⟨17, sp, dp, q, c, f, n, b⟩ = (T.size : Int)) := Lib.hid (by rw [HT.out.2]; rfl)
  have hT : T.size ≤ 340 := by rw [HT.out.2, SegM.udp_size]; show _ + b.size ≤ 340; omega
  have c0 : W3.cell? ⟨w.heap.size, 0, none⟩ = some (.int .i64 17) := HB3.out.cell 0 (by simp)
  have c7 : W3.cell? ⟨w.heap.size, 7, none⟩ = some (.string b) := HB3.out.cell 7 (by simp)
  have k1 : ¬ 9223372036854775807 < U.size + b.size := by omega
  go_wp2_with fail
  have hLe : (U.size : Int) + (b.size : Int) = (T.size : Int) := by rw [← HT.out.1, ByteArray.size_append]; omega
  rw [HT.out.1, hLe]
  clear hLe k1 hU

  refine (spec_pseudo_no s d 17 (T.size : Int) _ (by rw [← HL.out]; exact HP.out)).mono ?_
  rintro e w4 ⟨rfl, hb4⟩
  go_wp2
  go_ret2
  exact ⟨rfl, below_comp hb03 hb4⟩

set_option maxHeartbeats 4000000 in
set_option maxRecDepth 100000 in
theorem spec_seg_tcp_yes (s d sp dp q c f n : Int) (b : ByteArray) (w : World) (hok : SegM.Ok ⟨6, sp, dp, q, c, f, n, b⟩) (hp :  pseudoOk s d 6 (SegM.len ⟨6, sp, dp, q, c, f, n, b⟩)) :
    Calls Try.prog 113 #[.int .i64 s, .int .i64 d, .agg #[.int .i64 6, .int .i64 sp, .int .i64 dp, .int .i64 q, .int .i64 c, .int .i64 f, .int .i64 n, .string b]] w fun r w' => r = .returned (.tuple #[.string (SegM.tcp ⟨6, sp, dp, q, c, f, n, b⟩ (SegM.check ⟨6, sp, dp, q, c, f, n, b⟩ s d)), .bool true]) ∧ Below w.heap.size w w' := by
  have HV : Hid (∀ w1, Calls Try.prog 97 #[.agg #[.int .i64 6, .int .i64 sp, .int .i64 dp, .int .i64 q, .int .i64 c, .int .i64 f, .int .i64 n, .string b]] w1 fun r w' => r = .returned (.bool true) ∧ Below w1.heap.size w1 w') := Lib.hid fun w1 => by have := spec_segmentok ⟨6, sp, dp, q, c, f, n, b⟩ w1; rwa [decide_eq_true hok] at this
  obtain ⟨h1, h2, h7, hk⟩ := hok
  dsimp only at h1 h2 h7 hk
  have HP := Lib.hid hp
  clear hp
  obtain ⟨h3, h4, h5, h6⟩ : (0 ≤ q ∧ q ≤ 4294967295) ∧ (0 ≤ c ∧ c ≤ 4294967295) ∧ (0 ≤ f ∧ f ≤ 31) ∧ (0 ≤ n ∧ n ≤ 65535) := by omega
  clear hk
  have HWsp := Lib.hid fun W => (by have := spec_word16 sp W; rwa [word16_in _ h1] at this : Calls Try.prog 83 #[.int .i64 sp] W fun r w' => r = .returned (.string (w16 sp)) ∧ Below W.heap.size W w')
  have HWdp := Lib.hid fun W => (by have := spec_word16 dp W; rwa [word16_in _ h2] at this : Calls Try.prog 83 #[.int .i64 dp] W fun r w' => r = .returned (.string (w16 dp)) ∧ Below W.heap.size W w')
  have HW_q := Lib.hid fun W => (by have := spec_word32 q W; rwa [word32_in _ h3] at this : Calls Try.prog 124 #[.int .i64 q] W fun r w' => r = .returned (.string (w32 q)) ∧ Below W.heap.size W w')
  have HW_c := Lib.hid fun W => (by have := spec_word32 c W; rwa [word32_in _ h4] at this : Calls Try.prog 124 #[.int .i64 c] W fun r w' => r = .returned (.string (w32 c)) ∧ Below W.heap.size W w')
  have HWn := Lib.hid fun W => (by have := spec_word16 n W; rwa [word16_in _ h6] at this : Calls Try.prog 83 #[.int .i64 n] W fun r w' => r = .returned (.string (w16 n)) ∧ Below W.heap.size W w')
  have HW_0 := Lib.hid fun W => (by have := spec_word32 0 W; rwa [word32_in _ (by decide)] at this : Calls Try.prog 124 #[.int .i64 0] W fun r w' => r = .returned (.string (w32 0)) ∧ Below W.heap.size W w')
  have HC := Lib.hid fun g W => conv_two_at 5 80 (f % 256) (by decide) (by omega) g W
  have z8 : (two 80 (f % 256)).size ≤ 2 := Nat.le_refl _
  have z9 : (w32 q).size ≤ 4 := Nat.le_refl _
  have z10 : (w32 c).size ≤ 4 := Nat.le_refl _
  have z11 : (w16 n).size ≤ 2 := Nat.le_refl _
  have z12 : (w32 0).size ≤ 4 := Nat.le_refl _
  clear h3 h4 h5 h6
  have z1 : (w16 sp).size ≤ 2 := Nat.le_refl _
  have z2 : (w16 dp).size ≤ 2 := Nat.le_refl _
  have z3 : (w16 0).size ≤ 2 := Nat.le_refl _
  have z4 : (w16 (8 + (b.size : Int))).size ≤ 2 := Nat.le_refl _
  clear h1 h2
  go_enter Try.func113, Try.ntmps113
  go_wp2_with (go_at_call 97; refine (HV.out _).mono ?_; rintro e w1 ⟨rfl, hb1⟩)
  have hg1 : w.heap.size < w1.heap.size := by have := hb1.size; simp at this; omega
  have HB1 := Lib.hid ((Box.new w #[.int .i64 6, .int .i64 sp, .int .i64 dp, .int .i64 q, .int .i64 c, .int .i64 f, .int .i64 n, .string b] 39).below hb1 (by simp))
  have hb01 := below_comp (below_new _) hb1
  clear hb1
  refine wp_region_values (by kernel_rfl) (fun W => Below w1.heap.size w1 W) (Vals [.pointer (some ⟨w.heap.size, 1, none⟩), .int .i64 sp, .string (w16 sp), .pointer (some ⟨w.heap.size, 2, none⟩), .int .i64 dp, .string (w16 dp), .string ((w16 sp) ++ (w16 dp)), .string ((w16 sp) ++ (w16 dp))] [])
    88 rfl (by kernel_rfl) (by kernel_rfl) below_drew (eachOp_all ?_) ?_
  · refine ⟨?_, ?_, ?_, ?_, ?_, ?_, ?_, ?_, trivial⟩
    · intro a W hd hS hdep hfree
      have x5 : a.tmps.getD 5 undef = .pointer (some ⟨w.heap.size, 0, none⟩) := hfree 5 rfl
      clear hd hdep hfree
      simp only [Oper.wp, execOp]
      go_simp
      refine Nxt.mk _ rfl (fun _ _ => ?_) hS (fun _ _ h => h)
      rfl
    · intro a W hd hS hdep hfree
      have x16 : a.tmps.getD 16 undef = .pointer (some ⟨w.heap.size, 1, none⟩) := hdep 0 16 rfl rfl
      clear hd hdep hfree
      have c : W.cell? ⟨w.heap.size, 1, none⟩ = some (.int .i64 sp) := (HB1.out.below hS hg1).cell 1 (by simp)
      simp only [Oper.wp, execOp]
      go_simp
      refine Nxt.mk _ rfl (fun _ _ => ?_) hS (fun _ _ h => h)
      rfl
    · intro a W hd hS hdep hfree
      have x17 : a.tmps.getD 17 undef = .int .i64 sp := hdep 1 17 rfl rfl
      clear hd hdep hfree
      simp only [Oper.wp, execOp]
      go_simp
      refine (HWsp.out W).mono ?_
      rintro e W' ⟨rfl, hb⟩
      exact Nxt.mk _ rfl (fun _ _ => rfl) (below_comp hS hb) (fun j u h => Vals.below hb j u h)
    · intro a W hd hS hdep hfree
      have x5 : a.tmps.getD 5 undef = .pointer (some ⟨w.heap.size, 0, none⟩) := hfree 5 rfl
      clear hd hdep hfree
      simp only [Oper.wp, execOp]
      go_simp
      refine Nxt.mk _ rfl (fun _ _ => ?_) hS (fun _ _ h => h)
      rfl
    · intro a W hd hS hdep hfree
      have x19 : a.tmps.getD 19 undef = .pointer (some ⟨w.heap.size, 2, none⟩) := hdep 3 19 rfl rfl
      clear hd hdep hfree
      have c : W.cell? ⟨w.heap.size, 2, none⟩ = some (.int .i64 dp) := (HB1.out.below hS hg1).cell 2 (by simp)
      simp only [Oper.wp, execOp]
      go_simp
      refine Nxt.mk _ rfl (fun _ _ => ?_) hS (fun _ _ h => h)
      rfl
    · intro a W hd hS hdep hfree
      have x20 : a.tmps.getD 20 undef = .int .i64 dp := hdep 4 20 rfl rfl
      clear hd hdep hfree
      simp only [Oper.wp, execOp]
      go_simp
      refine (HWdp.out W).mono ?_
      rintro e W' ⟨rfl, hb⟩
      exact Nxt.mk _ rfl (fun _ _ => rfl) (below_comp hS hb) (fun j u h => Vals.below hb j u h)
    · intro a W hd hS hdep hfree
      have x18 : a.tmps.getD 18 undef = .string (w16 sp) := hdep 2 18 rfl rfl
      have x21 : a.tmps.getD 21 undef = .string (w16 dp) := hdep 5 21 rfl rfl
      clear hd hdep hfree
      have k : ¬ 9223372036854775807 < (w16 sp).size + (w16 dp).size := by (try simp only [ByteArray.size_append]); omega
      have k2 := k
      try simp only [ByteArray.size_append] at k2
      simp only [Oper.wp, execOp]
      go_simp
      refine Nxt.mk _ rfl (fun _ _ => ?_) hS (fun _ _ h => h)
      rfl
    · intro a W hd hS hdep hfree
      have x22 : a.tmps.getD 22 undef = .string ((w16 sp) ++ (w16 dp)) := hdep 6 22 rfl rfl
      clear hd hdep hfree
      simp only [Oper.wp, execOp]
      go_simp
      refine Nxt.mk _ rfl (fun _ _ => ?_) hS (fun _ _ h => h)
      rfl
  intro a W2 hs hd hS2 hdone hrest
  have ea := written_all [.pointer (some ⟨w.heap.size, 1, none⟩), .int .i64 sp, .string (w16 sp), .pointer (some ⟨w.heap.size, 2, none⟩), .int .i64 dp, .string (w16 dp), .string ((w16 sp) ++ (w16 dp)), .string ((w16 sp) ++ (w16 dp))] rfl hs hd hrest hdone
  clear hs hd hdone hrest
  subst ea
  simp only [written, List.map_cons, List.map_nil, List.zip_cons_cons, List.zip_nil_right, putAll]
  simp only [Exit.then, Act.put, List.setIfInBounds_toArray, List.set_cons_zero, List.set_cons_succ]
  have hg2 : w.heap.size < W2.heap.size := Nat.lt_of_lt_of_le hg1 hS2.size
  have HB2 := Lib.hid (HB1.out.below hS2 hg1)
  have hb02 := below_comp hb01 hS2
  have c0 : W2.cell? ⟨w.heap.size, 0, none⟩ = some (.int .i64 6) := HB2.out.cell 0 (by simp)
  clear hS2

  go_wp2_with fail
  clear c0
  refine wp_region_values (by kernel_rfl) (fun W => Below W2.heap.size W2 W) (Vals [.string ((w16 sp) ++ (w16 dp)), .pointer (some ⟨w.heap.size, 3, none⟩), .int .i64 q, .string (w32 q), .string (((w16 sp) ++ (w16 dp)) ++ (w32 q)), .pointer (some ⟨w.heap.size, 4, none⟩), .int .i64 c, .string (w32 c), .string ((((w16 sp) ++ (w16 dp)) ++ (w32 q)) ++ (w32 c)), .pointer (some ⟨w.heap.size, 5, none⟩), .int .i64 f, .int .u8 (f % 256), undef, .string (two 80 (f % 256)), .string (((((w16 sp) ++ (w16 dp)) ++ (w32 q)) ++ (w32 c)) ++ (two 80 (f % 256))), .pointer (some ⟨w.heap.size, 6, none⟩), .int .i64 n, .string (w16 n), .string ((((((w16 sp) ++ (w16 dp)) ++ (w32 q)) ++ (w32 c)) ++ (two 80 (f % 256))) ++ (w16 n)), .string (w32 0), .string (((((((w16 sp) ++ (w16 dp)) ++ (w32 q)) ++ (w32 c)) ++ (two 80 (f % 256))) ++ (w16 n)) ++ (w32 0)), .string (((((((w16 sp) ++ (w16 dp)) ++ (w32 q)) ++ (w32 c)) ++ (two 80 (f % 256))) ++ (w16 n)) ++ (w32 0))] [(12, #[.int .u8 80, .int .u8 (f % 256)], 5, 2)])
    88 rfl (by kernel_rfl) (by kernel_rfl) below_drew (eachOp_all ?_) ?_
  · refine ⟨?_, ?_, ?_, ?_, ?_, ?_, ?_, ?_, ?_, ?_, ?_, ?_, ?_, ?_, ?_, ?_, ?_, ?_, ?_, ?_, ?_, ?_, trivial⟩
    · intro a W hd hS hdep hfree
      have x8 : a.tmps.getD 8 undef = .string ((w16 sp) ++ (w16 dp)) := hfree 8 rfl
      clear hd hdep hfree
      simp only [Oper.wp, execOp]
      go_simp
      refine Nxt.mk _ rfl (fun _ _ => ?_) hS (fun _ _ h => h)
      rfl
    · intro a W hd hS hdep hfree
      have x5 : a.tmps.getD 5 undef = .pointer (some ⟨w.heap.size, 0, none⟩) := hfree 5 rfl
      clear hd hdep hfree
      simp only [Oper.wp, execOp]
      go_simp
      refine Nxt.mk _ rfl (fun _ _ => ?_) hS (fun _ _ h => h)
      rfl
    · intro a W hd hS hdep hfree
      have x27 : a.tmps.getD 27 undef = .pointer (some ⟨w.heap.size, 3, none⟩) := hdep 1 27 rfl rfl
      clear hd hdep hfree
      have c : W.cell? ⟨w.heap.size, 3, none⟩ = some (.int .i64 q) := (HB2.out.below hS hg2).cell 3 (by simp)
      simp only [Oper.wp, execOp]
      go_simp
      refine Nxt.mk _ rfl (fun _ _ => ?_) hS (fun _ _ h => h)
      rfl
    · intro a W hd hS hdep hfree
      have x28 : a.tmps.getD 28 undef = .int .i64 q := hdep 2 28 rfl rfl
      clear hd hdep hfree
      simp only [Oper.wp, execOp]
      go_simp
      refine (HW_q.out W).mono ?_
      rintro e W' ⟨rfl, hb⟩
      exact Nxt.mk _ rfl (fun _ _ => rfl) (below_comp hS hb) (fun j u h => Vals.below hb j u h)
    · intro a W hd hS hdep hfree
      have x26 : a.tmps.getD 26 undef = .string ((w16 sp) ++ (w16 dp)) := hdep 0 26 rfl rfl
      have x29 : a.tmps.getD 29 undef = .string (w32 q) := hdep 3 29 rfl rfl
      clear hd hdep hfree
      have k : ¬ 9223372036854775807 < ((w16 sp) ++ (w16 dp)).size + (w32 q).size := by (try simp only [ByteArray.size_append]); omega
      have k2 := k
      try simp only [ByteArray.size_append] at k2
      simp only [Oper.wp, execOp]
      go_simp
      refine Nxt.mk _ rfl (fun _ _ => ?_) hS (fun _ _ h => h)
      rfl
    · intro a W hd hS hdep hfree
      have x5 : a.tmps.getD 5 undef = .pointer (some ⟨w.heap.size, 0, none⟩) := hfree 5 rfl
      clear hd hdep hfree
      simp only [Oper.wp, execOp]
      go_simp
      refine Nxt.mk _ rfl (fun _ _ => ?_) hS (fun _ _ h => h)
      rfl
    · intro a W hd hS hdep hfree
      have x31 : a.tmps.getD 31 undef = .pointer (some ⟨w.heap.size, 4, none⟩) := hdep 5 31 rfl rfl
      clear hd hdep hfree
      have c : W.cell? ⟨w.heap.size, 4, none⟩ = some (.int .i64 c) := (HB2.out.below hS hg2).cell 4 (by simp)
      simp only [Oper.wp, execOp]
      go_simp
      refine Nxt.mk _ rfl (fun _ _ => ?_) hS (fun _ _ h => h)
      rfl
    · intro a W hd hS hdep hfree
      have x32 : a.tmps.getD 32 undef = .int .i64 c := hdep 6 32 rfl rfl
      clear hd hdep hfree
      simp only [Oper.wp, execOp]
      go_simp
      refine (HW_c.out W).mono ?_
      rintro e W' ⟨rfl, hb⟩
      exact Nxt.mk _ rfl (fun _ _ => rfl) (below_comp hS hb) (fun j u h => Vals.below hb j u h)
    · intro a W hd hS hdep hfree
      have x30 : a.tmps.getD 30 undef = .string (((w16 sp) ++ (w16 dp)) ++ (w32 q)) := hdep 4 30 rfl rfl
      have x33 : a.tmps.getD 33 undef = .string (w32 c) := hdep 7 33 rfl rfl
      clear hd hdep hfree
      have k : ¬ 9223372036854775807 < (((w16 sp) ++ (w16 dp)) ++ (w32 q)).size + (w32 c).size := by (try simp only [ByteArray.size_append]); omega
      have k2 := k
      try simp only [ByteArray.size_append] at k2
      simp only [Oper.wp, execOp]
      go_simp
      refine Nxt.mk _ rfl (fun _ _ => ?_) hS (fun _ _ h => h)
      rfl
    · intro a W hd hS hdep hfree
      have x5 : a.tmps.getD 5 undef = .pointer (some ⟨w.heap.size, 0, none⟩) := hfree 5 rfl
      clear hd hdep hfree
      simp only [Oper.wp, execOp]
      go_simp
      refine Nxt.mk _ rfl (fun _ _ => ?_) hS (fun _ _ h => h)
      rfl
    · intro a W hd hS hdep hfree
      have x35 : a.tmps.getD 35 undef = .pointer (some ⟨w.heap.size, 5, none⟩) := hdep 9 35 rfl rfl
      clear hd hdep hfree
      have c : W.cell? ⟨w.heap.size, 5, none⟩ = some (.int .i64 f) := (HB2.out.below hS hg2).cell 5 (by simp)
      simp only [Oper.wp, execOp]
      go_simp
      refine Nxt.mk _ rfl (fun _ _ => ?_) hS (fun _ _ h => h)
      rfl
    · intro a W hd hS hdep hfree
      have x36 : a.tmps.getD 36 undef = .int .i64 f := hdep 10 36 rfl rfl
      clear hd hdep hfree
      simp only [Oper.wp, execOp]
      go_simp
      refine Nxt.mk _ rfl (fun _ _ => ?_) hS (fun _ _ h => h)
      rfl
    · intro a W hd hS hdep hfree
      have x37 : a.tmps.getD 37 undef = .int .u8 (f % 256) := hdep 11 37 rfl rfl
      have y37 : a.tmps[37]?.getD undef = .int .u8 (f % 256) := by rw [← Array.getD_eq_getD_getElem?]; exact x37
      clear hd hdep hfree
      simp only [Oper.wp, execOp]
      go_simp
      exact Nxt.mk _ rfl (fun _ _ => ⟨W.heap.size, rfl, heap_alloc_new W _, by simp⟩) (below_comp hS (below_new _)) (fun j u h => Vals.below (below_new _) j u h)
    · intro a W hd hS hdep hfree
      obtain ⟨g38, x38, hx38, hl38⟩ : SliceAt W (a.tmps.getD 38 undef) #[.int .u8 80, .int .u8 (f % 256)] 5 2 := hdep 12 38 rfl rfl
      clear hd hdep hfree
      have hcv := HC.out g38 W hx38
      simp only [Oper.wp, execOp]
      go_simp
      refine Nxt.mk _ rfl (fun _ _ => ?_) hS (fun _ _ h => h)
      rfl
    · intro a W hd hS hdep hfree
      have x34 : a.tmps.getD 34 undef = .string ((((w16 sp) ++ (w16 dp)) ++ (w32 q)) ++ (w32 c)) := hdep 8 34 rfl rfl
      have x39 : a.tmps.getD 39 undef = .string (two 80 (f % 256)) := hdep 13 39 rfl rfl
      clear hd hdep hfree
      have k : ¬ 9223372036854775807 < ((((w16 sp) ++ (w16 dp)) ++ (w32 q)) ++ (w32 c)).size + (two 80 (f % 256)).size := by (try simp only [ByteArray.size_append]); omega
      have k2 := k
      try simp only [ByteArray.size_append] at k2
      simp only [Oper.wp, execOp]
      go_simp
      refine Nxt.mk _ rfl (fun _ _ => ?_) hS (fun _ _ h => h)
      rfl
    · intro a W hd hS hdep hfree
      have x5 : a.tmps.getD 5 undef = .pointer (some ⟨w.heap.size, 0, none⟩) := hfree 5 rfl
      clear hd hdep hfree
      simp only [Oper.wp, execOp]
      go_simp
      refine Nxt.mk _ rfl (fun _ _ => ?_) hS (fun _ _ h => h)
      rfl
    · intro a W hd hS hdep hfree
      have x41 : a.tmps.getD 41 undef = .pointer (some ⟨w.heap.size, 6, none⟩) := hdep 15 41 rfl rfl
      clear hd hdep hfree
      have c : W.cell? ⟨w.heap.size, 6, none⟩ = some (.int .i64 n) := (HB2.out.below hS hg2).cell 6 (by simp)
      simp only [Oper.wp, execOp]
      go_simp
      refine Nxt.mk _ rfl (fun _ _ => ?_) hS (fun _ _ h => h)
      rfl
    · intro a W hd hS hdep hfree
      have x42 : a.tmps.getD 42 undef = .int .i64 n := hdep 16 42 rfl rfl
      clear hd hdep hfree
      simp only [Oper.wp, execOp]
      go_simp
      refine (HWn.out W).mono ?_
      rintro e W' ⟨rfl, hb⟩
      exact Nxt.mk _ rfl (fun _ _ => rfl) (below_comp hS hb) (fun j u h => Vals.below hb j u h)
    · intro a W hd hS hdep hfree
      have x40 : a.tmps.getD 40 undef = .string (((((w16 sp) ++ (w16 dp)) ++ (w32 q)) ++ (w32 c)) ++ (two 80 (f % 256))) := hdep 14 40 rfl rfl
      have x43 : a.tmps.getD 43 undef = .string (w16 n) := hdep 17 43 rfl rfl
      clear hd hdep hfree
      have k : ¬ 9223372036854775807 < (((((w16 sp) ++ (w16 dp)) ++ (w32 q)) ++ (w32 c)) ++ (two 80 (f % 256))).size + (w16 n).size := by (try simp only [ByteArray.size_append]); omega
      have k2 := k
      try simp only [ByteArray.size_append] at k2
      simp only [Oper.wp, execOp]
      go_simp
      refine Nxt.mk _ rfl (fun _ _ => ?_) hS (fun _ _ h => h)
      rfl
    · intro a W hd hS hdep hfree
      clear hd hdep hfree
      simp only [Oper.wp, execOp]
      go_simp
      refine (HW_0.out W).mono ?_
      rintro e W' ⟨rfl, hb⟩
      exact Nxt.mk _ rfl (fun _ _ => rfl) (below_comp hS hb) (fun j u h => Vals.below hb j u h)
    · intro a W hd hS hdep hfree
      have x44 : a.tmps.getD 44 undef = .string ((((((w16 sp) ++ (w16 dp)) ++ (w32 q)) ++ (w32 c)) ++ (two 80 (f % 256))) ++ (w16 n)) := hdep 18 44 rfl rfl
      have x45 : a.tmps.getD 45 undef = .string (w32 0) := hdep 19 45 rfl rfl
      clear hd hdep hfree
      have k : ¬ 9223372036854775807 < ((((((w16 sp) ++ (w16 dp)) ++ (w32 q)) ++ (w32 c)) ++ (two 80 (f % 256))) ++ (w16 n)).size + (w32 0).size := by (try simp only [ByteArray.size_append]); omega
      have k2 := k
      try simp only [ByteArray.size_append] at k2
      simp only [Oper.wp, execOp]
      go_simp
      refine Nxt.mk _ rfl (fun _ _ => ?_) hS (fun _ _ h => h)
      rfl
    · intro a W hd hS hdep hfree
      have x46 : a.tmps.getD 46 undef = .string (((((((w16 sp) ++ (w16 dp)) ++ (w32 q)) ++ (w32 c)) ++ (two 80 (f % 256))) ++ (w16 n)) ++ (w32 0)) := hdep 20 46 rfl rfl
      clear hd hdep hfree
      simp only [Oper.wp, execOp]
      go_simp
      refine Nxt.mk _ rfl (fun _ _ => ?_) hS (fun _ _ h => h)
      rfl
  intro a W3 hs hd hS3 hdone hrest
  obtain ⟨u38, hu38⟩ : ∃ u, a.tmps.getD 38 undef = u := ⟨_, rfl⟩
  have ea := written_all [.string ((w16 sp) ++ (w16 dp)), .pointer (some ⟨w.heap.size, 3, none⟩), .int .i64 q, .string (w32 q), .string (((w16 sp) ++ (w16 dp)) ++ (w32 q)), .pointer (some ⟨w.heap.size, 4, none⟩), .int .i64 c, .string (w32 c), .string ((((w16 sp) ++ (w16 dp)) ++ (w32 q)) ++ (w32 c)), .pointer (some ⟨w.heap.size, 5, none⟩), .int .i64 f, .int .u8 (f % 256), u38, .string (two 80 (f % 256)), .string (((((w16 sp) ++ (w16 dp)) ++ (w32 q)) ++ (w32 c)) ++ (two 80 (f % 256))), .pointer (some ⟨w.heap.size, 6, none⟩), .int .i64 n, .string (w16 n), .string ((((((w16 sp) ++ (w16 dp)) ++ (w32 q)) ++ (w32 c)) ++ (two 80 (f % 256))) ++ (w16 n)), .string (w32 0), .string (((((((w16 sp) ++ (w16 dp)) ++ (w32 q)) ++ (w32 c)) ++ (two 80 (f % 256))) ++ (w16 n)) ++ (w32 0)), .string (((((((w16 sp) ++ (w16 dp)) ++ (w32 q)) ++ (w32 c)) ++ (two 80 (f % 256))) ++ (w16 n)) ++ (w32 0))] rfl hs hd hrest (fun j d hj => by
    have h := hdone j d hj
    match j, hj, h with
    | 0, _, h => exact h
    | 1, _, h => exact h
    | 2, _, h => exact h
    | 3, _, h => exact h
    | 4, _, h => exact h
    | 5, _, h => exact h
    | 6, _, h => exact h
    | 7, _, h => exact h
    | 8, _, h => exact h
    | 9, _, h => exact h
    | 10, _, h => exact h
    | 11, _, h => exact h
    | 12, hj, _ => exact (Option.some.inj hj) ▸ hu38
    | 13, _, h => exact h
    | 14, _, h => exact h
    | 15, _, h => exact h
    | 16, _, h => exact h
    | 17, _, h => exact h
    | 18, _, h => exact h
    | 19, _, h => exact h
    | 20, _, h => exact h
    | 21, _, h => exact h
    | n + 22, hj, _ => exact absurd (dstOf_lt hj) (by simp))
  clear hu38
  clear hs hd hdone hrest
  subst ea
  simp only [written, List.map_cons, List.map_nil, List.zip_cons_cons, List.zip_nil_right, putAll]
  simp only [Exit.then, Act.put, List.setIfInBounds_toArray, List.set_cons_zero, List.set_cons_succ]
  have hg3 : w.heap.size < W3.heap.size := Nat.lt_of_lt_of_le hg2 hS3.size
  have HB3 := Lib.hid (HB2.out.below hS3 hg2)
  have hb03 := below_comp hb02 hS3
  clear hS3
  obtain ⟨U, HU⟩ : ∃ U : ByteArray, Hid (U = ((((((w16 sp) ++ (w16 dp)) ++ (w32 q)) ++ (w32 c)) ++ (two 80 (f % 256))) ++ (w16 n)) ++ (w32 0)) := ⟨_, Lib.hid rfl⟩
  rw [← HU.out]
  obtain ⟨T, HT⟩ : ∃ T : ByteArray, Hid (U ++ b = T ∧ T = SegM.tcp ⟨6, sp, dp, q, c, f, n, b⟩ 0) := ⟨_, Lib.hid ⟨rfl, by rw [HU.out]; exact (tcp_zero ⟨6, sp, dp, q, c, f, n, b⟩)⟩⟩
  have hU : U.size ≤ 20 := by rw [HU.out]; simp only [ByteArray.size_append]; omega
  have HL : Hid (SegM.len ⟨6, sp, dp, q, c, f, n, b⟩ = (T.size : Int)) := Lib.hid (by rw [HT.out.2]; rfl)
  have hT : T.size ≤ 340 := by rw [HT.out.2, SegM.tcp_size]; show _ + b.size ≤ 340; omega
  have c0 : W3.cell? ⟨w.heap.size, 0, none⟩ = some (.int .i64 6) := HB3.out.cell 0 (by simp)
  have c7 : W3.cell? ⟨w.heap.size, 7, none⟩ = some (.string b) := HB3.out.cell 7 (by simp)
  have k1 : ¬ 9223372036854775807 < U.size + b.size := by omega
  go_wp2_with fail
  have hLe : (U.size : Int) + (b.size : Int) = (T.size : Int) := by rw [← HT.out.1, ByteArray.size_append]; omega
  rw [HT.out.1, hLe]
  clear hLe k1 hU

  refine (spec_pseudo_yes s d 6 (T.size : Int) _ (by rw [← HL.out]; exact HP.out)).mono ?_
  obtain ⟨P, HPP, hPs⟩ : ∃ P : ByteArray, Hid (pseudoB s d 6 (T.size : Int) = P) ∧ P.size ≤ 12 := ⟨_, Lib.hid rfl, by rw [pseudo_size]; omega⟩
  rw [HPP.out]
  rintro e w4 ⟨rfl, hb4⟩
  obtain ⟨hc, hf, _⟩ := bcell hb4
  have hg4 : w.heap.size < w4.heap.size := Nat.lt_of_lt_of_le hg3 hb4.size
  obtain ⟨X, HX⟩ : ∃ X : Int, Hid (65535 - sumW (P ++ T) = X) := ⟨_, Lib.hid rfl⟩
  have hX : 0 ≤ X ∧ X ≤ 65535 := by have := sumW_bd (P ++ T); rw [← HX.out]; omega
  have HCk := Lib.hid fun W => (by have := spec_checksum_any (P ++ T) W (by rw [ByteArray.size_append]; omega); rwa [HX.out] at this : Calls Try.prog 126 #[.string (P ++ T)] W fun r w' => r = .returned (.int .i64 X) ∧ Below W.heap.size W w')
  have HRaw : Hid (SegM.raw ⟨6, sp, dp, q, c, f, n, b⟩ s d = X) := Lib.hid (by unfold SegM.raw; rw [HL.out, ← HX.out, ← HPP.out]; show 65535 - sumW (_ ++ SegM.tcp _ 0) = _; rw [← HT.out.2])
  have k2 : ¬ 9223372036854775807 < P.size + T.size := by omega
  have HXb := Lib.hid hX
  rcases (show X = 0 ∨ X ≠ 0 by omega) with hx | hx
  case' inl =>
    obtain ⟨V, HVV, hV⟩ : ∃ V : Int, Hid (V = 0 ∧ SegM.check ⟨6, sp, dp, q, c, f, n, b⟩ s d = V) ∧ 0 ≤ V ∧ V ≤ 65535 := ⟨0, Lib.hid ⟨rfl, by unfold SegM.check; rw [HRaw.out, hx]; rfl⟩, by decide⟩
    subst hx
  case' inr =>
    have e0 : (X == 0) = false := by rw [beq_eq_false_iff_ne]; exact hx
    obtain ⟨V, HVV, hV⟩ : ∃ V : Int, Hid (V = X ∧ SegM.check ⟨6, sp, dp, q, c, f, n, b⟩ s d = V) ∧ 0 ≤ V ∧ V ≤ 65535 := ⟨X, Lib.hid ⟨rfl, by unfold SegM.check; rw [HRaw.out, if_neg (fun h => hx h.1)]⟩, hX⟩
    have hxi := Lib.hid hx
    clear hx
  all_goals
    have HWV := Lib.hid fun W => (by have := spec_word16 V W; rwa [word16_in _ hV] at this : Calls Try.prog 83 #[.int .i64 V] W fun r w' => r = .returned (.string (w16 V)) ∧ Below W.heap.size W w')
    have HPV := Lib.hid fun W => spec_put_any T 16 (w16 V) W (by omega) (by show 2 ≤ 4194304; decide) (by decide)
    have hzV : (w16 V).size ≤ 2 := Nat.le_refl _
    rw [HVV.out.1] at HWV HPV
    clear hV hX
    go_wp2_with (first
      | (go_at_call 126; refine (HCk.out _).mono ?_; rintro e w5 ⟨rfl, hb5⟩; obtain ⟨hc5, hf5, _⟩ := bcell hb5)
      | (go_at_call 83; refine (HWV.out _).mono ?_; rintro e w6 ⟨rfl, hb6⟩)
      | (go_at_call 127; refine (HPV.out _).mono ?_; rintro e w7 ⟨rfl, hb7⟩))
    go_ret2
    refine ⟨ret_str_bool ?_ rfl, below_comp (below_comp (below_comp (below_comp hb03 hb4) hb5) hb6) hb7⟩
    rw [HVV.out.2, ← HVV.out.1, HT.out.2]
    exact put_tcp _ _

set_option maxHeartbeats 4000000 in
set_option maxRecDepth 100000 in
theorem spec_seg_tcp_no (s d sp dp q c f n : Int) (b : ByteArray) (w : World) (hok : SegM.Ok ⟨6, sp, dp, q, c, f, n, b⟩) (hp : ¬ pseudoOk s d 6 (SegM.len ⟨6, sp, dp, q, c, f, n, b⟩)) :
    Calls Try.prog 113 #[.int .i64 s, .int .i64 d, .agg #[.int .i64 6, .int .i64 sp, .int .i64 dp, .int .i64 q, .int .i64 c, .int .i64 f, .int .i64 n, .string b]] w fun r w' => r = .returned (.tuple #[.string ⟨#[]⟩, .bool false]) ∧ Below w.heap.size w w' := by
  have HV : Hid (∀ w1, Calls Try.prog 97 #[.agg #[.int .i64 6, .int .i64 sp, .int .i64 dp, .int .i64 q, .int .i64 c, .int .i64 f, .int .i64 n, .string b]] w1 fun r w' => r = .returned (.bool true) ∧ Below w1.heap.size w1 w') := Lib.hid fun w1 => by have := spec_segmentok ⟨6, sp, dp, q, c, f, n, b⟩ w1; rwa [decide_eq_true hok] at this
  obtain ⟨h1, h2, h7, hk⟩ := hok
  dsimp only at h1 h2 h7 hk
  have HP := Lib.hid hp
  clear hp
  obtain ⟨h3, h4, h5, h6⟩ : (0 ≤ q ∧ q ≤ 4294967295) ∧ (0 ≤ c ∧ c ≤ 4294967295) ∧ (0 ≤ f ∧ f ≤ 31) ∧ (0 ≤ n ∧ n ≤ 65535) := by omega
  clear hk
  have HWsp := Lib.hid fun W => (by have := spec_word16 sp W; rwa [word16_in _ h1] at this : Calls Try.prog 83 #[.int .i64 sp] W fun r w' => r = .returned (.string (w16 sp)) ∧ Below W.heap.size W w')
  have HWdp := Lib.hid fun W => (by have := spec_word16 dp W; rwa [word16_in _ h2] at this : Calls Try.prog 83 #[.int .i64 dp] W fun r w' => r = .returned (.string (w16 dp)) ∧ Below W.heap.size W w')
  have HW_q := Lib.hid fun W => (by have := spec_word32 q W; rwa [word32_in _ h3] at this : Calls Try.prog 124 #[.int .i64 q] W fun r w' => r = .returned (.string (w32 q)) ∧ Below W.heap.size W w')
  have HW_c := Lib.hid fun W => (by have := spec_word32 c W; rwa [word32_in _ h4] at this : Calls Try.prog 124 #[.int .i64 c] W fun r w' => r = .returned (.string (w32 c)) ∧ Below W.heap.size W w')
  have HWn := Lib.hid fun W => (by have := spec_word16 n W; rwa [word16_in _ h6] at this : Calls Try.prog 83 #[.int .i64 n] W fun r w' => r = .returned (.string (w16 n)) ∧ Below W.heap.size W w')
  have HW_0 := Lib.hid fun W => (by have := spec_word32 0 W; rwa [word32_in _ (by decide)] at this : Calls Try.prog 124 #[.int .i64 0] W fun r w' => r = .returned (.string (w32 0)) ∧ Below W.heap.size W w')
  have HC := Lib.hid fun g W => conv_two_at 5 80 (f % 256) (by decide) (by omega) g W
  have z8 : (two 80 (f % 256)).size ≤ 2 := Nat.le_refl _
  have z9 : (w32 q).size ≤ 4 := Nat.le_refl _
  have z10 : (w32 c).size ≤ 4 := Nat.le_refl _
  have z11 : (w16 n).size ≤ 2 := Nat.le_refl _
  have z12 : (w32 0).size ≤ 4 := Nat.le_refl _
  clear h3 h4 h5 h6
  have z1 : (w16 sp).size ≤ 2 := Nat.le_refl _
  have z2 : (w16 dp).size ≤ 2 := Nat.le_refl _
  have z3 : (w16 0).size ≤ 2 := Nat.le_refl _
  have z4 : (w16 (8 + (b.size : Int))).size ≤ 2 := Nat.le_refl _
  clear h1 h2
  go_enter Try.func113, Try.ntmps113
  go_wp2_with (go_at_call 97; refine (HV.out _).mono ?_; rintro e w1 ⟨rfl, hb1⟩)
  have hg1 : w.heap.size < w1.heap.size := by have := hb1.size; simp at this; omega
  have HB1 := Lib.hid ((Box.new w #[.int .i64 6, .int .i64 sp, .int .i64 dp, .int .i64 q, .int .i64 c, .int .i64 f, .int .i64 n, .string b] 39).below hb1 (by simp))
  have hb01 := below_comp (below_new _) hb1
  clear hb1
  refine wp_region_values (by kernel_rfl) (fun W => Below w1.heap.size w1 W) (Vals [.pointer (some ⟨w.heap.size, 1, none⟩), .int .i64 sp, .string (w16 sp), .pointer (some ⟨w.heap.size, 2, none⟩), .int .i64 dp, .string (w16 dp), .string ((w16 sp) ++ (w16 dp)), .string ((w16 sp) ++ (w16 dp))] [])
    88 rfl (by kernel_rfl) (by kernel_rfl) below_drew (eachOp_all ?_) ?_
  · refine ⟨?_, ?_, ?_, ?_, ?_, ?_, ?_, ?_, trivial⟩
    · intro a W hd hS hdep hfree
      have x5 : a.tmps.getD 5 undef = .pointer (some ⟨w.heap.size, 0, none⟩) := hfree 5 rfl
      clear hd hdep hfree
      simp only [Oper.wp, execOp]
      go_simp
      refine Nxt.mk _ rfl (fun _ _ => ?_) hS (fun _ _ h => h)
      rfl
    · intro a W hd hS hdep hfree
      have x16 : a.tmps.getD 16 undef = .pointer (some ⟨w.heap.size, 1, none⟩) := hdep 0 16 rfl rfl
      clear hd hdep hfree
      have c : W.cell? ⟨w.heap.size, 1, none⟩ = some (.int .i64 sp) := (HB1.out.below hS hg1).cell 1 (by simp)
      simp only [Oper.wp, execOp]
      go_simp
      refine Nxt.mk _ rfl (fun _ _ => ?_) hS (fun _ _ h => h)
      rfl
    · intro a W hd hS hdep hfree
      have x17 : a.tmps.getD 17 undef = .int .i64 sp := hdep 1 17 rfl rfl
      clear hd hdep hfree
      simp only [Oper.wp, execOp]
      go_simp
      refine (HWsp.out W).mono ?_
      rintro e W' ⟨rfl, hb⟩
      exact Nxt.mk _ rfl (fun _ _ => rfl) (below_comp hS hb) (fun j u h => Vals.below hb j u h)
    · intro a W hd hS hdep hfree
      have x5 : a.tmps.getD 5 undef = .pointer (some ⟨w.heap.size, 0, none⟩) := hfree 5 rfl
      clear hd hdep hfree
      simp only [Oper.wp, execOp]
      go_simp
      refine Nxt.mk _ rfl (fun _ _ => ?_) hS (fun _ _ h => h)
      rfl
    · intro a W hd hS hdep hfree
      have x19 : a.tmps.getD 19 undef = .pointer (some ⟨w.heap.size, 2, none⟩) := hdep 3 19 rfl rfl
      clear hd hdep hfree
      have c : W.cell? ⟨w.heap.size, 2, none⟩ = some (.int .i64 dp) := (HB1.out.below hS hg1).cell 2 (by simp)
      simp only [Oper.wp, execOp]
      go_simp
      refine Nxt.mk _ rfl (fun _ _ => ?_) hS (fun _ _ h => h)
      rfl
    · intro a W hd hS hdep hfree
      have x20 : a.tmps.getD 20 undef = .int .i64 dp := hdep 4 20 rfl rfl
      clear hd hdep hfree
      simp only [Oper.wp, execOp]
      go_simp
      refine (HWdp.out W).mono ?_
      rintro e W' ⟨rfl, hb⟩
      exact Nxt.mk _ rfl (fun _ _ => rfl) (below_comp hS hb) (fun j u h => Vals.below hb j u h)
    · intro a W hd hS hdep hfree
      have x18 : a.tmps.getD 18 undef = .string (w16 sp) := hdep 2 18 rfl rfl
      have x21 : a.tmps.getD 21 undef = .string (w16 dp) := hdep 5 21 rfl rfl
      clear hd hdep hfree
      have k : ¬ 9223372036854775807 < (w16 sp).size + (w16 dp).size := by (try simp only [ByteArray.size_append]); omega
      have k2 := k
      try simp only [ByteArray.size_append] at k2
      simp only [Oper.wp, execOp]
      go_simp
      refine Nxt.mk _ rfl (fun _ _ => ?_) hS (fun _ _ h => h)
      rfl
    · intro a W hd hS hdep hfree
      have x22 : a.tmps.getD 22 undef = .string ((w16 sp) ++ (w16 dp)) := hdep 6 22 rfl rfl
      clear hd hdep hfree
      simp only [Oper.wp, execOp]
      go_simp
      refine Nxt.mk _ rfl (fun _ _ => ?_) hS (fun _ _ h => h)
      rfl
  intro a W2 hs hd hS2 hdone hrest
  have ea := written_all [.pointer (some ⟨w.heap.size, 1, none⟩), .int .i64 sp, .string (w16 sp), .pointer (some ⟨w.heap.size, 2, none⟩), .int .i64 dp, .string (w16 dp), .string ((w16 sp) ++ (w16 dp)), .string ((w16 sp) ++ (w16 dp))] rfl hs hd hrest hdone
  clear hs hd hdone hrest
  subst ea
  simp only [written, List.map_cons, List.map_nil, List.zip_cons_cons, List.zip_nil_right, putAll]
  simp only [Exit.then, Act.put, List.setIfInBounds_toArray, List.set_cons_zero, List.set_cons_succ]
  have hg2 : w.heap.size < W2.heap.size := Nat.lt_of_lt_of_le hg1 hS2.size
  have HB2 := Lib.hid (HB1.out.below hS2 hg1)
  have hb02 := below_comp hb01 hS2
  have c0 : W2.cell? ⟨w.heap.size, 0, none⟩ = some (.int .i64 6) := HB2.out.cell 0 (by simp)
  clear hS2

  go_wp2_with fail
  clear c0
  refine wp_region_values (by kernel_rfl) (fun W => Below W2.heap.size W2 W) (Vals [.string ((w16 sp) ++ (w16 dp)), .pointer (some ⟨w.heap.size, 3, none⟩), .int .i64 q, .string (w32 q), .string (((w16 sp) ++ (w16 dp)) ++ (w32 q)), .pointer (some ⟨w.heap.size, 4, none⟩), .int .i64 c, .string (w32 c), .string ((((w16 sp) ++ (w16 dp)) ++ (w32 q)) ++ (w32 c)), .pointer (some ⟨w.heap.size, 5, none⟩), .int .i64 f, .int .u8 (f % 256), undef, .string (two 80 (f % 256)), .string (((((w16 sp) ++ (w16 dp)) ++ (w32 q)) ++ (w32 c)) ++ (two 80 (f % 256))), .pointer (some ⟨w.heap.size, 6, none⟩), .int .i64 n, .string (w16 n), .string ((((((w16 sp) ++ (w16 dp)) ++ (w32 q)) ++ (w32 c)) ++ (two 80 (f % 256))) ++ (w16 n)), .string (w32 0), .string (((((((w16 sp) ++ (w16 dp)) ++ (w32 q)) ++ (w32 c)) ++ (two 80 (f % 256))) ++ (w16 n)) ++ (w32 0)), .string (((((((w16 sp) ++ (w16 dp)) ++ (w32 q)) ++ (w32 c)) ++ (two 80 (f % 256))) ++ (w16 n)) ++ (w32 0))] [(12, #[.int .u8 80, .int .u8 (f % 256)], 5, 2)])
    88 rfl (by kernel_rfl) (by kernel_rfl) below_drew (eachOp_all ?_) ?_
  · refine ⟨?_, ?_, ?_, ?_, ?_, ?_, ?_, ?_, ?_, ?_, ?_, ?_, ?_, ?_, ?_, ?_, ?_, ?_, ?_, ?_, ?_, ?_, trivial⟩
    · intro a W hd hS hdep hfree
      have x8 : a.tmps.getD 8 undef = .string ((w16 sp) ++ (w16 dp)) := hfree 8 rfl
      clear hd hdep hfree
      simp only [Oper.wp, execOp]
      go_simp
      refine Nxt.mk _ rfl (fun _ _ => ?_) hS (fun _ _ h => h)
      rfl
    · intro a W hd hS hdep hfree
      have x5 : a.tmps.getD 5 undef = .pointer (some ⟨w.heap.size, 0, none⟩) := hfree 5 rfl
      clear hd hdep hfree
      simp only [Oper.wp, execOp]
      go_simp
      refine Nxt.mk _ rfl (fun _ _ => ?_) hS (fun _ _ h => h)
      rfl
    · intro a W hd hS hdep hfree
      have x27 : a.tmps.getD 27 undef = .pointer (some ⟨w.heap.size, 3, none⟩) := hdep 1 27 rfl rfl
      clear hd hdep hfree
      have c : W.cell? ⟨w.heap.size, 3, none⟩ = some (.int .i64 q) := (HB2.out.below hS hg2).cell 3 (by simp)
      simp only [Oper.wp, execOp]
      go_simp
      refine Nxt.mk _ rfl (fun _ _ => ?_) hS (fun _ _ h => h)
      rfl
    · intro a W hd hS hdep hfree
      have x28 : a.tmps.getD 28 undef = .int .i64 q := hdep 2 28 rfl rfl
      clear hd hdep hfree
      simp only [Oper.wp, execOp]
      go_simp
      refine (HW_q.out W).mono ?_
      rintro e W' ⟨rfl, hb⟩
      exact Nxt.mk _ rfl (fun _ _ => rfl) (below_comp hS hb) (fun j u h => Vals.below hb j u h)
    · intro a W hd hS hdep hfree
      have x26 : a.tmps.getD 26 undef = .string ((w16 sp) ++ (w16 dp)) := hdep 0 26 rfl rfl
      have x29 : a.tmps.getD 29 undef = .string (w32 q) := hdep 3 29 rfl rfl
      clear hd hdep hfree
      have k : ¬ 9223372036854775807 < ((w16 sp) ++ (w16 dp)).size + (w32 q).size := by (try simp only [ByteArray.size_append]); omega
      have k2 := k
      try simp only [ByteArray.size_append] at k2
      simp only [Oper.wp, execOp]
      go_simp
      refine Nxt.mk _ rfl (fun _ _ => ?_) hS (fun _ _ h => h)
      rfl
    · intro a W hd hS hdep hfree
      have x5 : a.tmps.getD 5 undef = .pointer (some ⟨w.heap.size, 0, none⟩) := hfree 5 rfl
      clear hd hdep hfree
      simp only [Oper.wp, execOp]
      go_simp
      refine Nxt.mk _ rfl (fun _ _ => ?_) hS (fun _ _ h => h)
      rfl
    · intro a W hd hS hdep hfree
      have x31 : a.tmps.getD 31 undef = .pointer (some ⟨w.heap.size, 4, none⟩) := hdep 5 31 rfl rfl
      clear hd hdep hfree
      have c : W.cell? ⟨w.heap.size, 4, none⟩ = some (.int .i64 c) := (HB2.out.below hS hg2).cell 4 (by simp)
      simp only [Oper.wp, execOp]
      go_simp
      refine Nxt.mk _ rfl (fun _ _ => ?_) hS (fun _ _ h => h)
      rfl
    · intro a W hd hS hdep hfree
      have x32 : a.tmps.getD 32 undef = .int .i64 c := hdep 6 32 rfl rfl
      clear hd hdep hfree
      simp only [Oper.wp, execOp]
      go_simp
      refine (HW_c.out W).mono ?_
      rintro e W' ⟨rfl, hb⟩
      exact Nxt.mk _ rfl (fun _ _ => rfl) (below_comp hS hb) (fun j u h => Vals.below hb j u h)
    · intro a W hd hS hdep hfree
      have x30 : a.tmps.getD 30 undef = .string (((w16 sp) ++ (w16 dp)) ++ (w32 q)) := hdep 4 30 rfl rfl
      have x33 : a.tmps.getD 33 undef = .string (w32 c) := hdep 7 33 rfl rfl
      clear hd hdep hfree
      have k : ¬ 9223372036854775807 < (((w16 sp) ++ (w16 dp)) ++ (w32 q)).size + (w32 c).size := by (try simp only [ByteArray.size_append]); omega
      have k2 := k
      try simp only [ByteArray.size_append] at k2
      simp only [Oper.wp, execOp]
      go_simp
      refine Nxt.mk _ rfl (fun _ _ => ?_) hS (fun _ _ h => h)
      rfl
    · intro a W hd hS hdep hfree
      have x5 : a.tmps.getD 5 undef = .pointer (some ⟨w.heap.size, 0, none⟩) := hfree 5 rfl
      clear hd hdep hfree
      simp only [Oper.wp, execOp]
      go_simp
      refine Nxt.mk _ rfl (fun _ _ => ?_) hS (fun _ _ h => h)
      rfl
    · intro a W hd hS hdep hfree
      have x35 : a.tmps.getD 35 undef = .pointer (some ⟨w.heap.size, 5, none⟩) := hdep 9 35 rfl rfl
      clear hd hdep hfree
      have c : W.cell? ⟨w.heap.size, 5, none⟩ = some (.int .i64 f) := (HB2.out.below hS hg2).cell 5 (by simp)
      simp only [Oper.wp, execOp]
      go_simp
      refine Nxt.mk _ rfl (fun _ _ => ?_) hS (fun _ _ h => h)
      rfl
    · intro a W hd hS hdep hfree
      have x36 : a.tmps.getD 36 undef = .int .i64 f := hdep 10 36 rfl rfl
      clear hd hdep hfree
      simp only [Oper.wp, execOp]
      go_simp
      refine Nxt.mk _ rfl (fun _ _ => ?_) hS (fun _ _ h => h)
      rfl
    · intro a W hd hS hdep hfree
      have x37 : a.tmps.getD 37 undef = .int .u8 (f % 256) := hdep 11 37 rfl rfl
      have y37 : a.tmps[37]?.getD undef = .int .u8 (f % 256) := by rw [← Array.getD_eq_getD_getElem?]; exact x37
      clear hd hdep hfree
      simp only [Oper.wp, execOp]
      go_simp
      exact Nxt.mk _ rfl (fun _ _ => ⟨W.heap.size, rfl, heap_alloc_new W _, by simp⟩) (below_comp hS (below_new _)) (fun j u h => Vals.below (below_new _) j u h)
    · intro a W hd hS hdep hfree
      obtain ⟨g38, x38, hx38, hl38⟩ : SliceAt W (a.tmps.getD 38 undef) #[.int .u8 80, .int .u8 (f % 256)] 5 2 := hdep 12 38 rfl rfl
      clear hd hdep hfree
      have hcv := HC.out g38 W hx38
      simp only [Oper.wp, execOp]
      go_simp
      refine Nxt.mk _ rfl (fun _ _ => ?_) hS (fun _ _ h => h)
      rfl
    · intro a W hd hS hdep hfree
      have x34 : a.tmps.getD 34 undef = .string ((((w16 sp) ++ (w16 dp)) ++ (w32 q)) ++ (w32 c)) := hdep 8 34 rfl rfl
      have x39 : a.tmps.getD 39 undef = .string (two 80 (f % 256)) := hdep 13 39 rfl rfl
      clear hd hdep hfree
      have k : ¬ 9223372036854775807 < ((((w16 sp) ++ (w16 dp)) ++ (w32 q)) ++ (w32 c)).size + (two 80 (f % 256)).size := by (try simp only [ByteArray.size_append]); omega
      have k2 := k
      try simp only [ByteArray.size_append] at k2
      simp only [Oper.wp, execOp]
      go_simp
      refine Nxt.mk _ rfl (fun _ _ => ?_) hS (fun _ _ h => h)
      rfl
    · intro a W hd hS hdep hfree
      have x5 : a.tmps.getD 5 undef = .pointer (some ⟨w.heap.size, 0, none⟩) := hfree 5 rfl
      clear hd hdep hfree
      simp only [Oper.wp, execOp]
      go_simp
      refine Nxt.mk _ rfl (fun _ _ => ?_) hS (fun _ _ h => h)
      rfl
    · intro a W hd hS hdep hfree
      have x41 : a.tmps.getD 41 undef = .pointer (some ⟨w.heap.size, 6, none⟩) := hdep 15 41 rfl rfl
      clear hd hdep hfree
      have c : W.cell? ⟨w.heap.size, 6, none⟩ = some (.int .i64 n) := (HB2.out.below hS hg2).cell 6 (by simp)
      simp only [Oper.wp, execOp]
      go_simp
      refine Nxt.mk _ rfl (fun _ _ => ?_) hS (fun _ _ h => h)
      rfl
    · intro a W hd hS hdep hfree
      have x42 : a.tmps.getD 42 undef = .int .i64 n := hdep 16 42 rfl rfl
      clear hd hdep hfree
      simp only [Oper.wp, execOp]
      go_simp
      refine (HWn.out W).mono ?_
      rintro e W' ⟨rfl, hb⟩
      exact Nxt.mk _ rfl (fun _ _ => rfl) (below_comp hS hb) (fun j u h => Vals.below hb j u h)
    · intro a W hd hS hdep hfree
      have x40 : a.tmps.getD 40 undef = .string (((((w16 sp) ++ (w16 dp)) ++ (w32 q)) ++ (w32 c)) ++ (two 80 (f % 256))) := hdep 14 40 rfl rfl
      have x43 : a.tmps.getD 43 undef = .string (w16 n) := hdep 17 43 rfl rfl
      clear hd hdep hfree
      have k : ¬ 9223372036854775807 < (((((w16 sp) ++ (w16 dp)) ++ (w32 q)) ++ (w32 c)) ++ (two 80 (f % 256))).size + (w16 n).size := by (try simp only [ByteArray.size_append]); omega
      have k2 := k
      try simp only [ByteArray.size_append] at k2
      simp only [Oper.wp, execOp]
      go_simp
      refine Nxt.mk _ rfl (fun _ _ => ?_) hS (fun _ _ h => h)
      rfl
    · intro a W hd hS hdep hfree
      clear hd hdep hfree
      simp only [Oper.wp, execOp]
      go_simp
      refine (HW_0.out W).mono ?_
      rintro e W' ⟨rfl, hb⟩
      exact Nxt.mk _ rfl (fun _ _ => rfl) (below_comp hS hb) (fun j u h => Vals.below hb j u h)
    · intro a W hd hS hdep hfree
      have x44 : a.tmps.getD 44 undef = .string ((((((w16 sp) ++ (w16 dp)) ++ (w32 q)) ++ (w32 c)) ++ (two 80 (f % 256))) ++ (w16 n)) := hdep 18 44 rfl rfl
      have x45 : a.tmps.getD 45 undef = .string (w32 0) := hdep 19 45 rfl rfl
      clear hd hdep hfree
      have k : ¬ 9223372036854775807 < ((((((w16 sp) ++ (w16 dp)) ++ (w32 q)) ++ (w32 c)) ++ (two 80 (f % 256))) ++ (w16 n)).size + (w32 0).size := by (try simp only [ByteArray.size_append]); omega
      have k2 := k
      try simp only [ByteArray.size_append] at k2
      simp only [Oper.wp, execOp]
      go_simp
      refine Nxt.mk _ rfl (fun _ _ => ?_) hS (fun _ _ h => h)
      rfl
    · intro a W hd hS hdep hfree
      have x46 : a.tmps.getD 46 undef = .string (((((((w16 sp) ++ (w16 dp)) ++ (w32 q)) ++ (w32 c)) ++ (two 80 (f % 256))) ++ (w16 n)) ++ (w32 0)) := hdep 20 46 rfl rfl
      clear hd hdep hfree
      simp only [Oper.wp, execOp]
      go_simp
      refine Nxt.mk _ rfl (fun _ _ => ?_) hS (fun _ _ h => h)
      rfl
  intro a W3 hs hd hS3 hdone hrest
  obtain ⟨u38, hu38⟩ : ∃ u, a.tmps.getD 38 undef = u := ⟨_, rfl⟩
  have ea := written_all [.string ((w16 sp) ++ (w16 dp)), .pointer (some ⟨w.heap.size, 3, none⟩), .int .i64 q, .string (w32 q), .string (((w16 sp) ++ (w16 dp)) ++ (w32 q)), .pointer (some ⟨w.heap.size, 4, none⟩), .int .i64 c, .string (w32 c), .string ((((w16 sp) ++ (w16 dp)) ++ (w32 q)) ++ (w32 c)), .pointer (some ⟨w.heap.size, 5, none⟩), .int .i64 f, .int .u8 (f % 256), u38, .string (two 80 (f % 256)), .string (((((w16 sp) ++ (w16 dp)) ++ (w32 q)) ++ (w32 c)) ++ (two 80 (f % 256))), .pointer (some ⟨w.heap.size, 6, none⟩), .int .i64 n, .string (w16 n), .string ((((((w16 sp) ++ (w16 dp)) ++ (w32 q)) ++ (w32 c)) ++ (two 80 (f % 256))) ++ (w16 n)), .string (w32 0), .string (((((((w16 sp) ++ (w16 dp)) ++ (w32 q)) ++ (w32 c)) ++ (two 80 (f % 256))) ++ (w16 n)) ++ (w32 0)), .string (((((((w16 sp) ++ (w16 dp)) ++ (w32 q)) ++ (w32 c)) ++ (two 80 (f % 256))) ++ (w16 n)) ++ (w32 0))] rfl hs hd hrest (fun j d hj => by
    have h := hdone j d hj
    match j, hj, h with
    | 0, _, h => exact h
    | 1, _, h => exact h
    | 2, _, h => exact h
    | 3, _, h => exact h
    | 4, _, h => exact h
    | 5, _, h => exact h
    | 6, _, h => exact h
    | 7, _, h => exact h
    | 8, _, h => exact h
    | 9, _, h => exact h
    | 10, _, h => exact h
    | 11, _, h => exact h
    | 12, hj, _ => exact (Option.some.inj hj) ▸ hu38
    | 13, _, h => exact h
    | 14, _, h => exact h
    | 15, _, h => exact h
    | 16, _, h => exact h
    | 17, _, h => exact h
    | 18, _, h => exact h
    | 19, _, h => exact h
    | 20, _, h => exact h
    | 21, _, h => exact h
    | n + 22, hj, _ => exact absurd (dstOf_lt hj) (by simp))
  clear hu38
  clear hs hd hdone hrest
  subst ea
  simp only [written, List.map_cons, List.map_nil, List.zip_cons_cons, List.zip_nil_right, putAll]
  simp only [Exit.then, Act.put, List.setIfInBounds_toArray, List.set_cons_zero, List.set_cons_succ]
  have hg3 : w.heap.size < W3.heap.size := Nat.lt_of_lt_of_le hg2 hS3.size
  have HB3 := Lib.hid (HB2.out.below hS3 hg2)
  have hb03 := below_comp hb02 hS3
  clear hS3
  obtain ⟨U, HU⟩ : ∃ U : ByteArray, Hid (U = ((((((w16 sp) ++ (w16 dp)) ++ (w32 q)) ++ (w32 c)) ++ (two 80 (f % 256))) ++ (w16 n)) ++ (w32 0)) := ⟨_, Lib.hid rfl⟩
  rw [← HU.out]
  obtain ⟨T, HT⟩ : ∃ T : ByteArray, Hid (U ++ b = T ∧ T = SegM.tcp ⟨6, sp, dp, q, c, f, n, b⟩ 0) := ⟨_, Lib.hid ⟨rfl, by rw [HU.out]; exact (tcp_zero ⟨6, sp, dp, q, c, f, n, b⟩)⟩⟩
  have hU : U.size ≤ 20 := by rw [HU.out]; simp only [ByteArray.size_append]; omega
  have HL : Hid (SegM.len ⟨6, sp, dp, q, c, f, n, b⟩ = (T.size : Int)) := Lib.hid (by rw [HT.out.2]; rfl)
  have hT : T.size ≤ 340 := by rw [HT.out.2, SegM.tcp_size]; show _ + b.size ≤ 340; omega
  have c0 : W3.cell? ⟨w.heap.size, 0, none⟩ = some (.int .i64 6) := HB3.out.cell 0 (by simp)
  have c7 : W3.cell? ⟨w.heap.size, 7, none⟩ = some (.string b) := HB3.out.cell 7 (by simp)
  have k1 : ¬ 9223372036854775807 < U.size + b.size := by omega
  go_wp2_with fail
  have hLe : (U.size : Int) + (b.size : Int) = (T.size : Int) := by rw [← HT.out.1, ByteArray.size_append]; omega
  rw [HT.out.1, hLe]
  clear hLe k1 hU

  refine (spec_pseudo_no s d 6 (T.size : Int) _ (by rw [← HL.out]; exact HP.out)).mono ?_
  rintro e w4 ⟨rfl, hb4⟩
  go_wp2
  go_ret2
  exact ⟨rfl, below_comp hb03 hb4⟩

end Go.Proofs.Ytbidaccdjnbhfaa

/- The program's bytes of a segment with a given checksum. -/
namespace Go.Proofs.Ytbidaccdjnbhfaa
open Go.RowKit
set_option linter.unusedSimpArgs false
set_option linter.unusedVariables false

set_option maxHeartbeats 4000000 in
set_option maxRecDepth 100000 in
theorem impl_with_udp (sp dp q c f n : Int) (b : ByteArray) (m : Int) (w : World) (h1 : 0 ≤ sp ∧ sp ≤ 65535) (h2 : 0 ≤ dp ∧ dp ≤ 65535) (h3 : 0 ≤ q ∧ q ≤ 4294967295) (h4 : 0 ≤ c ∧ c ≤ 4294967295) (h5 : 0 ≤ f ∧ f ≤ 31) (h6 : 0 ≤ n ∧ n ≤ 65535) (h7 : (b.size : Int) ≤ 320) (hm : 0 ≤ m ∧ m ≤ 65535) :
    Calls Try.prog 132 #[.agg #[.int .i64 17, .int .i64 sp, .int .i64 dp, .int .i64 q, .int .i64 c, .int .i64 f, .int .i64 n, .string b], .int .i64 m] w fun r w' => r = .returned (.string (SegM.udp ⟨17, sp, dp, q, c, f, n, b⟩ m)) ∧ Below w.heap.size w w' := by
  have HWsp := Lib.hid fun W => (by have := impl_word16 sp W; rwa [word16_in _ h1] at this : Calls Try.prog 123 #[.int .i64 sp] W fun r w' => r = .returned (.string (w16 sp)) ∧ Below W.heap.size W w')
  have HWdp := Lib.hid fun W => (by have := impl_word16 dp W; rwa [word16_in _ h2] at this : Calls Try.prog 123 #[.int .i64 dp] W fun r w' => r = .returned (.string (w16 dp)) ∧ Below W.heap.size W w')
  have HWm := Lib.hid fun W => (by have := impl_word16 m W; rwa [word16_in _ hm] at this : Calls Try.prog 123 #[.int .i64 m] W fun r w' => r = .returned (.string (w16 m)) ∧ Below W.heap.size W w')
  have HWl := Lib.hid fun W => (by have := impl_word16 (8 + (b.size : Int)) W; rwa [word16_in _ (by omega)] at this : Calls Try.prog 123 #[.int .i64 (8 + (b.size : Int))] W fun r w' => r = .returned (.string (w16 (8 + (b.size : Int)))) ∧ Below W.heap.size W w')
  have z1 : (w16 sp).size ≤ 2 := Nat.le_refl _
  have z2 : (w16 dp).size ≤ 2 := Nat.le_refl _
  have z3 : (w16 m).size ≤ 2 := Nat.le_refl _
  have z4 : (w16 (8 + (b.size : Int))).size ≤ 2 := Nat.le_refl _
  have HL : Hid (∀ W, _) := Lib.hid fun W => layout_17 W
  clear h1 h2 h3 h4 h5 h6 hm
  go_enter Try.func132, Try.ntmps132
  go_wp2_with fail
  obtain ⟨w1, hw1⟩ : ∃ w1, w1 = w.alloc (.cells #[.int .i64 17, .int .i64 sp, .int .i64 dp, .int .i64 q, .int .i64 c, .int .i64 f, .int .i64 n, .string b] 39) := ⟨_, rfl⟩
  have hg1 : w.heap.size < w1.heap.size := by rw [hw1]; simp
  have HB1 := Lib.hid (hw1 ▸ Box.new w #[.int .i64 17, .int .i64 sp, .int .i64 dp, .int .i64 q, .int .i64 c, .int .i64 f, .int .i64 n, .string b] 39 : Box w1 w.heap.size #[.int .i64 17, .int .i64 sp, .int .i64 dp, .int .i64 q, .int .i64 c, .int .i64 f, .int .i64 n, .string b] 39)
  have hb01 : Below w.heap.size w w1 := hw1 ▸ below_new _
  rw [← hw1]
  clear hw1
  refine wp_region_values (by kernel_rfl) (fun W => Below w1.heap.size w1 W) (Vals [.pointer (some ⟨w.heap.size, 1, none⟩), .int .i64 sp, .string (w16 sp), .pointer (some ⟨w.heap.size, 2, none⟩), .int .i64 dp, .string (w16 dp), .string ((w16 sp) ++ (w16 dp)), .string ((w16 sp) ++ (w16 dp))] [])
    57 rfl (by kernel_rfl) (by kernel_rfl) below_drew (eachOp_all ?_) ?_
  · refine ⟨?_, ?_, ?_, ?_, ?_, ?_, ?_, ?_, trivial⟩
    · intro a W hd hS hdep hfree
      have x2 : a.tmps.getD 2 undef = .pointer (some ⟨w.heap.size, 0, none⟩) := hfree 2 rfl
      clear hd hdep hfree
      simp only [Oper.wp, execOp]
      go_simp
      refine Nxt.mk _ rfl (fun _ _ => ?_) hS (fun _ _ h => h)
      rfl
    · intro a W hd hS hdep hfree
      have x6 : a.tmps.getD 6 undef = .pointer (some ⟨w.heap.size, 1, none⟩) := hdep 0 6 rfl rfl
      clear hd hdep hfree
      have c : W.cell? ⟨w.heap.size, 1, none⟩ = some (.int .i64 sp) := (HB1.out.below hS hg1).cell 1 (by simp)
      simp only [Oper.wp, execOp]
      go_simp
      refine Nxt.mk _ rfl (fun _ _ => ?_) hS (fun _ _ h => h)
      rfl
    · intro a W hd hS hdep hfree
      have x7 : a.tmps.getD 7 undef = .int .i64 sp := hdep 1 7 rfl rfl
      clear hd hdep hfree
      simp only [Oper.wp, execOp]
      go_simp
      refine (HWsp.out W).mono ?_
      rintro e W' ⟨rfl, hb⟩
      exact Nxt.mk _ rfl (fun _ _ => rfl) (below_comp hS hb) (fun j u h => Vals.below hb j u h)
    · intro a W hd hS hdep hfree
      have x2 : a.tmps.getD 2 undef = .pointer (some ⟨w.heap.size, 0, none⟩) := hfree 2 rfl
      clear hd hdep hfree
      simp only [Oper.wp, execOp]
      go_simp
      refine Nxt.mk _ rfl (fun _ _ => ?_) hS (fun _ _ h => h)
      rfl
    · intro a W hd hS hdep hfree
      have x9 : a.tmps.getD 9 undef = .pointer (some ⟨w.heap.size, 2, none⟩) := hdep 3 9 rfl rfl
      clear hd hdep hfree
      have c : W.cell? ⟨w.heap.size, 2, none⟩ = some (.int .i64 dp) := (HB1.out.below hS hg1).cell 2 (by simp)
      simp only [Oper.wp, execOp]
      go_simp
      refine Nxt.mk _ rfl (fun _ _ => ?_) hS (fun _ _ h => h)
      rfl
    · intro a W hd hS hdep hfree
      have x10 : a.tmps.getD 10 undef = .int .i64 dp := hdep 4 10 rfl rfl
      clear hd hdep hfree
      simp only [Oper.wp, execOp]
      go_simp
      refine (HWdp.out W).mono ?_
      rintro e W' ⟨rfl, hb⟩
      exact Nxt.mk _ rfl (fun _ _ => rfl) (below_comp hS hb) (fun j u h => Vals.below hb j u h)
    · intro a W hd hS hdep hfree
      have x8 : a.tmps.getD 8 undef = .string (w16 sp) := hdep 2 8 rfl rfl
      have x11 : a.tmps.getD 11 undef = .string (w16 dp) := hdep 5 11 rfl rfl
      clear hd hdep hfree
      have k : ¬ 9223372036854775807 < (w16 sp).size + (w16 dp).size := by (try simp only [ByteArray.size_append]); omega
      have k2 := k
      try simp only [ByteArray.size_append] at k2
      simp only [Oper.wp, execOp]
      go_simp
      refine Nxt.mk _ rfl (fun _ _ => ?_) hS (fun _ _ h => h)
      rfl
    · intro a W hd hS hdep hfree
      have x12 : a.tmps.getD 12 undef = .string ((w16 sp) ++ (w16 dp)) := hdep 6 12 rfl rfl
      clear hd hdep hfree
      simp only [Oper.wp, execOp]
      go_simp
      refine Nxt.mk _ rfl (fun _ _ => ?_) hS (fun _ _ h => h)
      rfl
  intro a W2 hs hd hS2 hdone hrest
  have ea := written_all [.pointer (some ⟨w.heap.size, 1, none⟩), .int .i64 sp, .string (w16 sp), .pointer (some ⟨w.heap.size, 2, none⟩), .int .i64 dp, .string (w16 dp), .string ((w16 sp) ++ (w16 dp)), .string ((w16 sp) ++ (w16 dp))] rfl hs hd hrest hdone
  clear hs hd hdone hrest
  subst ea
  simp only [written, List.map_cons, List.map_nil, List.zip_cons_cons, List.zip_nil_right, putAll]
  simp only [Exit.then, Act.put, List.setIfInBounds_toArray, List.set_cons_zero, List.set_cons_succ]
  have hg2 : w.heap.size < W2.heap.size := Nat.lt_of_lt_of_le hg1 hS2.size
  have HB2 := Lib.hid (HB1.out.below hS2 hg1)
  have hb02 := below_comp hb01 hS2
  have c0 : W2.cell? ⟨w.heap.size, 0, none⟩ = some (.int .i64 17) := HB2.out.cell 0 (by simp)
  clear hS2
  go_wp2_with (go_at_call 112; refine (HL.out _).mono ?_; rintro e w' ⟨rfl, rfl⟩)
  clear c0
  refine wp_region_values (by kernel_rfl) (fun W => Below W2.heap.size W2 W) (Vals [.string ((w16 sp) ++ (w16 dp)), .pointer (some ⟨w.heap.size, 7, none⟩), .string b, .int .i64 (b.size : Int), .int .i64 (8 + (b.size : Int)), .string (w16 (8 + (b.size : Int))), .string (((w16 sp) ++ (w16 dp)) ++ (w16 (8 + (b.size : Int)))), .int .i64 m, .string (w16 m), .string ((((w16 sp) ++ (w16 dp)) ++ (w16 (8 + (b.size : Int)))) ++ (w16 m)), .pointer (some ⟨w.heap.size, 7, none⟩), .string b, .string (((((w16 sp) ++ (w16 dp)) ++ (w16 (8 + (b.size : Int)))) ++ (w16 m)) ++ b), .string (((((w16 sp) ++ (w16 dp)) ++ (w16 (8 + (b.size : Int)))) ++ (w16 m)) ++ b)] [])
    57 rfl (by kernel_rfl) (by kernel_rfl) below_drew (eachOp_all ?_) ?_
  · refine ⟨?_, ?_, ?_, ?_, ?_, ?_, ?_, ?_, ?_, ?_, ?_, ?_, ?_, ?_, trivial⟩
    · intro a W hd hS hdep hfree
      have x5 : a.tmps.getD 5 undef = .string ((w16 sp) ++ (w16 dp)) := hfree 5 rfl
      clear hd hdep hfree
      simp only [Oper.wp, execOp]
      go_simp
      refine Nxt.mk _ rfl (fun _ _ => ?_) hS (fun _ _ h => h)
      rfl
    · intro a W hd hS hdep hfree
      have x2 : a.tmps.getD 2 undef = .pointer (some ⟨w.heap.size, 0, none⟩) := hfree 2 rfl
      clear hd hdep hfree
      simp only [Oper.wp, execOp]
      go_simp
      refine Nxt.mk _ rfl (fun _ _ => ?_) hS (fun _ _ h => h)
      rfl
    · intro a W hd hS hdep hfree
      have x18 : a.tmps.getD 18 undef = .pointer (some ⟨w.heap.size, 7, none⟩) := hdep 1 18 rfl rfl
      clear hd hdep hfree
      have c : W.cell? ⟨w.heap.size, 7, none⟩ = some (.string b) := (HB2.out.below hS hg2).cell 7 (by simp)
      simp only [Oper.wp, execOp]
      go_simp
      refine Nxt.mk _ rfl (fun _ _ => ?_) hS (fun _ _ h => h)
      rfl
    · intro a W hd hS hdep hfree
      have x19 : a.tmps.getD 19 undef = .string b := hdep 2 19 rfl rfl
      clear hd hdep hfree
      simp only [Oper.wp, execOp]
      go_simp
      refine Nxt.mk _ rfl (fun _ _ => ?_) hS (fun _ _ h => h)
      rfl
    · intro a W hd hS hdep hfree
      have x20 : a.tmps.getD 20 undef = .int .i64 (b.size : Int) := hdep 3 20 rfl rfl
      clear hd hdep hfree
      have k : IntKind.i64.wrap (8 + (b.size : Int)) = 8 + (b.size : Int) := wrap_in _ (by omega) (by omega)
      simp only [Oper.wp, execOp]
      go_simp
      refine Nxt.mk _ rfl (fun _ _ => ?_) hS (fun _ _ h => h)
      rfl
    · intro a W hd hS hdep hfree
      have x21 : a.tmps.getD 21 undef = .int .i64 (8 + (b.size : Int)) := hdep 4 21 rfl rfl
      clear hd hdep hfree
      simp only [Oper.wp, execOp]
      go_simp
      refine (HWl.out W).mono ?_
      rintro e W' ⟨rfl, hb⟩
      exact Nxt.mk _ rfl (fun _ _ => rfl) (below_comp hS hb) (fun j u h => Vals.below hb j u h)
    · intro a W hd hS hdep hfree
      have x17 : a.tmps.getD 17 undef = .string ((w16 sp) ++ (w16 dp)) := hdep 0 17 rfl rfl
      have x22 : a.tmps.getD 22 undef = .string (w16 (8 + (b.size : Int))) := hdep 5 22 rfl rfl
      clear hd hdep hfree
      have k : ¬ 9223372036854775807 < ((w16 sp) ++ (w16 dp)).size + (w16 (8 + (b.size : Int))).size := by (try simp only [ByteArray.size_append]); omega
      have k2 := k
      try simp only [ByteArray.size_append] at k2
      simp only [Oper.wp, execOp]
      go_simp
      refine Nxt.mk _ rfl (fun _ _ => ?_) hS (fun _ _ h => h)
      rfl
    · intro a W hd hS hdep hfree
      have x1 : a.tmps.getD 1 undef = .int .i64 m := hfree 1 rfl
      clear hd hdep hfree
      simp only [Oper.wp, execOp]
      go_simp
      refine Nxt.mk _ rfl (fun _ _ => ?_) hS (fun _ _ h => h)
      rfl
    · intro a W hd hS hdep hfree
      have x24 : a.tmps.getD 24 undef = .int .i64 m := hdep 7 24 rfl rfl
      clear hd hdep hfree
      simp only [Oper.wp, execOp]
      go_simp
      refine (HWm.out W).mono ?_
      rintro e W' ⟨rfl, hb⟩
      exact Nxt.mk _ rfl (fun _ _ => rfl) (below_comp hS hb) (fun j u h => Vals.below hb j u h)
    · intro a W hd hS hdep hfree
      have x23 : a.tmps.getD 23 undef = .string (((w16 sp) ++ (w16 dp)) ++ (w16 (8 + (b.size : Int)))) := hdep 6 23 rfl rfl
      have x25 : a.tmps.getD 25 undef = .string (w16 m) := hdep 8 25 rfl rfl
      clear hd hdep hfree
      have k : ¬ 9223372036854775807 < (((w16 sp) ++ (w16 dp)) ++ (w16 (8 + (b.size : Int)))).size + (w16 m).size := by (try simp only [ByteArray.size_append]); omega
      have k2 := k
      try simp only [ByteArray.size_append] at k2
      simp only [Oper.wp, execOp]
      go_simp
      refine Nxt.mk _ rfl (fun _ _ => ?_) hS (fun _ _ h => h)
      rfl
    · intro a W hd hS hdep hfree
      have x2 : a.tmps.getD 2 undef = .pointer (some ⟨w.heap.size, 0, none⟩) := hfree 2 rfl
      clear hd hdep hfree
      simp only [Oper.wp, execOp]
      go_simp
      refine Nxt.mk _ rfl (fun _ _ => ?_) hS (fun _ _ h => h)
      rfl
    · intro a W hd hS hdep hfree
      have x27 : a.tmps.getD 27 undef = .pointer (some ⟨w.heap.size, 7, none⟩) := hdep 10 27 rfl rfl
      clear hd hdep hfree
      have c : W.cell? ⟨w.heap.size, 7, none⟩ = some (.string b) := (HB2.out.below hS hg2).cell 7 (by simp)
      simp only [Oper.wp, execOp]
      go_simp
      refine Nxt.mk _ rfl (fun _ _ => ?_) hS (fun _ _ h => h)
      rfl
    · intro a W hd hS hdep hfree
      have x26 : a.tmps.getD 26 undef = .string ((((w16 sp) ++ (w16 dp)) ++ (w16 (8 + (b.size : Int)))) ++ (w16 m)) := hdep 9 26 rfl rfl
      have x28 : a.tmps.getD 28 undef = .string b := hdep 11 28 rfl rfl
      clear hd hdep hfree
      have k : ¬ 9223372036854775807 < ((((w16 sp) ++ (w16 dp)) ++ (w16 (8 + (b.size : Int)))) ++ (w16 m)).size + b.size := by (try simp only [ByteArray.size_append]); omega
      have k2 := k
      try simp only [ByteArray.size_append] at k2
      simp only [Oper.wp, execOp]
      go_simp
      refine Nxt.mk _ rfl (fun _ _ => ?_) hS (fun _ _ h => h)
      rfl
    · intro a W hd hS hdep hfree
      have x29 : a.tmps.getD 29 undef = .string (((((w16 sp) ++ (w16 dp)) ++ (w16 (8 + (b.size : Int)))) ++ (w16 m)) ++ b) := hdep 12 29 rfl rfl
      clear hd hdep hfree
      simp only [Oper.wp, execOp]
      go_simp
      refine Nxt.mk _ rfl (fun _ _ => ?_) hS (fun _ _ h => h)
      rfl
  intro a W3 hs hd hS3 hdone hrest
  have ea := written_all [.string ((w16 sp) ++ (w16 dp)), .pointer (some ⟨w.heap.size, 7, none⟩), .string b, .int .i64 (b.size : Int), .int .i64 (8 + (b.size : Int)), .string (w16 (8 + (b.size : Int))), .string (((w16 sp) ++ (w16 dp)) ++ (w16 (8 + (b.size : Int)))), .int .i64 m, .string (w16 m), .string ((((w16 sp) ++ (w16 dp)) ++ (w16 (8 + (b.size : Int)))) ++ (w16 m)), .pointer (some ⟨w.heap.size, 7, none⟩), .string b, .string (((((w16 sp) ++ (w16 dp)) ++ (w16 (8 + (b.size : Int)))) ++ (w16 m)) ++ b), .string (((((w16 sp) ++ (w16 dp)) ++ (w16 (8 + (b.size : Int)))) ++ (w16 m)) ++ b)] rfl hs hd hrest hdone
  clear hs hd hdone hrest
  subst ea
  simp only [written, List.map_cons, List.map_nil, List.zip_cons_cons, List.zip_nil_right, putAll]
  simp only [Exit.then, Act.put, List.setIfInBounds_toArray, List.set_cons_zero, List.set_cons_succ]
  go_wp2
  go_ret
  exact ⟨rfl, below_comp hb02 hS3⟩

set_option maxHeartbeats 4000000 in
set_option maxRecDepth 100000 in
theorem impl_with_tcp (sp dp q c f n : Int) (b : ByteArray) (m : Int) (w : World) (h1 : 0 ≤ sp ∧ sp ≤ 65535) (h2 : 0 ≤ dp ∧ dp ≤ 65535) (h3 : 0 ≤ q ∧ q ≤ 4294967295) (h4 : 0 ≤ c ∧ c ≤ 4294967295) (h5 : 0 ≤ f ∧ f ≤ 31) (h6 : 0 ≤ n ∧ n ≤ 65535) (h7 : (b.size : Int) ≤ 320) (hm : 0 ≤ m ∧ m ≤ 65535) :
    Calls Try.prog 132 #[.agg #[.int .i64 6, .int .i64 sp, .int .i64 dp, .int .i64 q, .int .i64 c, .int .i64 f, .int .i64 n, .string b], .int .i64 m] w fun r w' => r = .returned (.string (SegM.tcp ⟨6, sp, dp, q, c, f, n, b⟩ m)) ∧ Below w.heap.size w w' := by
  have HWsp := Lib.hid fun W => (by have := impl_word16 sp W; rwa [word16_in _ h1] at this : Calls Try.prog 123 #[.int .i64 sp] W fun r w' => r = .returned (.string (w16 sp)) ∧ Below W.heap.size W w')
  have HWdp := Lib.hid fun W => (by have := impl_word16 dp W; rwa [word16_in _ h2] at this : Calls Try.prog 123 #[.int .i64 dp] W fun r w' => r = .returned (.string (w16 dp)) ∧ Below W.heap.size W w')
  have HWm := Lib.hid fun W => (by have := impl_word16 m W; rwa [word16_in _ hm] at this : Calls Try.prog 123 #[.int .i64 m] W fun r w' => r = .returned (.string (w16 m)) ∧ Below W.heap.size W w')
  have HW_q := Lib.hid fun W => (by have := impl_word32 q W; rwa [word32_in _ h3] at this : Calls Try.prog 143 #[.int .i64 q] W fun r w' => r = .returned (.string (w32 q)) ∧ Below W.heap.size W w')
  have HW_c := Lib.hid fun W => (by have := impl_word32 c W; rwa [word32_in _ h4] at this : Calls Try.prog 143 #[.int .i64 c] W fun r w' => r = .returned (.string (w32 c)) ∧ Below W.heap.size W w')
  have HWn := Lib.hid fun W => (by have := impl_word16 n W; rwa [word16_in _ h6] at this : Calls Try.prog 123 #[.int .i64 n] W fun r w' => r = .returned (.string (w16 n)) ∧ Below W.heap.size W w')
  have HW0 := Lib.hid fun W => (by have := impl_word16 0 W; rwa [word16_in _ (by decide)] at this : Calls Try.prog 123 #[.int .i64 0] W fun r w' => r = .returned (.string (w16 0)) ∧ Below W.heap.size W w')
  have HC := Lib.hid fun g W => conv_two_at 5 80 (f % 256) (by decide) (by omega) g W
  have z8 : (two 80 (f % 256)).size ≤ 2 := Nat.le_refl _
  have z9 : (w32 q).size ≤ 4 := Nat.le_refl _
  have z10 : (w32 c).size ≤ 4 := Nat.le_refl _
  have z11 : (w16 n).size ≤ 2 := Nat.le_refl _
  have z12 : (w16 0).size ≤ 2 := Nat.le_refl _
  have z1 : (w16 sp).size ≤ 2 := Nat.le_refl _
  have z2 : (w16 dp).size ≤ 2 := Nat.le_refl _
  have z3 : (w16 m).size ≤ 2 := Nat.le_refl _
  have z4 : (w16 (8 + (b.size : Int))).size ≤ 2 := Nat.le_refl _
  have HL : Hid (∀ W, _) := Lib.hid fun W => layout_6 W
  clear h1 h2 h3 h4 h5 h6 hm
  go_enter Try.func132, Try.ntmps132
  go_wp2_with fail
  obtain ⟨w1, hw1⟩ : ∃ w1, w1 = w.alloc (.cells #[.int .i64 6, .int .i64 sp, .int .i64 dp, .int .i64 q, .int .i64 c, .int .i64 f, .int .i64 n, .string b] 39) := ⟨_, rfl⟩
  have hg1 : w.heap.size < w1.heap.size := by rw [hw1]; simp
  have HB1 := Lib.hid (hw1 ▸ Box.new w #[.int .i64 6, .int .i64 sp, .int .i64 dp, .int .i64 q, .int .i64 c, .int .i64 f, .int .i64 n, .string b] 39 : Box w1 w.heap.size #[.int .i64 6, .int .i64 sp, .int .i64 dp, .int .i64 q, .int .i64 c, .int .i64 f, .int .i64 n, .string b] 39)
  have hb01 : Below w.heap.size w w1 := hw1 ▸ below_new _
  rw [← hw1]
  clear hw1
  refine wp_region_values (by kernel_rfl) (fun W => Below w1.heap.size w1 W) (Vals [.pointer (some ⟨w.heap.size, 1, none⟩), .int .i64 sp, .string (w16 sp), .pointer (some ⟨w.heap.size, 2, none⟩), .int .i64 dp, .string (w16 dp), .string ((w16 sp) ++ (w16 dp)), .string ((w16 sp) ++ (w16 dp))] [])
    57 rfl (by kernel_rfl) (by kernel_rfl) below_drew (eachOp_all ?_) ?_
  · refine ⟨?_, ?_, ?_, ?_, ?_, ?_, ?_, ?_, trivial⟩
    · intro a W hd hS hdep hfree
      have x2 : a.tmps.getD 2 undef = .pointer (some ⟨w.heap.size, 0, none⟩) := hfree 2 rfl
      clear hd hdep hfree
      simp only [Oper.wp, execOp]
      go_simp
      refine Nxt.mk _ rfl (fun _ _ => ?_) hS (fun _ _ h => h)
      rfl
    · intro a W hd hS hdep hfree
      have x6 : a.tmps.getD 6 undef = .pointer (some ⟨w.heap.size, 1, none⟩) := hdep 0 6 rfl rfl
      clear hd hdep hfree
      have c : W.cell? ⟨w.heap.size, 1, none⟩ = some (.int .i64 sp) := (HB1.out.below hS hg1).cell 1 (by simp)
      simp only [Oper.wp, execOp]
      go_simp
      refine Nxt.mk _ rfl (fun _ _ => ?_) hS (fun _ _ h => h)
      rfl
    · intro a W hd hS hdep hfree
      have x7 : a.tmps.getD 7 undef = .int .i64 sp := hdep 1 7 rfl rfl
      clear hd hdep hfree
      simp only [Oper.wp, execOp]
      go_simp
      refine (HWsp.out W).mono ?_
      rintro e W' ⟨rfl, hb⟩
      exact Nxt.mk _ rfl (fun _ _ => rfl) (below_comp hS hb) (fun j u h => Vals.below hb j u h)
    · intro a W hd hS hdep hfree
      have x2 : a.tmps.getD 2 undef = .pointer (some ⟨w.heap.size, 0, none⟩) := hfree 2 rfl
      clear hd hdep hfree
      simp only [Oper.wp, execOp]
      go_simp
      refine Nxt.mk _ rfl (fun _ _ => ?_) hS (fun _ _ h => h)
      rfl
    · intro a W hd hS hdep hfree
      have x9 : a.tmps.getD 9 undef = .pointer (some ⟨w.heap.size, 2, none⟩) := hdep 3 9 rfl rfl
      clear hd hdep hfree
      have c : W.cell? ⟨w.heap.size, 2, none⟩ = some (.int .i64 dp) := (HB1.out.below hS hg1).cell 2 (by simp)
      simp only [Oper.wp, execOp]
      go_simp
      refine Nxt.mk _ rfl (fun _ _ => ?_) hS (fun _ _ h => h)
      rfl
    · intro a W hd hS hdep hfree
      have x10 : a.tmps.getD 10 undef = .int .i64 dp := hdep 4 10 rfl rfl
      clear hd hdep hfree
      simp only [Oper.wp, execOp]
      go_simp
      refine (HWdp.out W).mono ?_
      rintro e W' ⟨rfl, hb⟩
      exact Nxt.mk _ rfl (fun _ _ => rfl) (below_comp hS hb) (fun j u h => Vals.below hb j u h)
    · intro a W hd hS hdep hfree
      have x8 : a.tmps.getD 8 undef = .string (w16 sp) := hdep 2 8 rfl rfl
      have x11 : a.tmps.getD 11 undef = .string (w16 dp) := hdep 5 11 rfl rfl
      clear hd hdep hfree
      have k : ¬ 9223372036854775807 < (w16 sp).size + (w16 dp).size := by (try simp only [ByteArray.size_append]); omega
      have k2 := k
      try simp only [ByteArray.size_append] at k2
      simp only [Oper.wp, execOp]
      go_simp
      refine Nxt.mk _ rfl (fun _ _ => ?_) hS (fun _ _ h => h)
      rfl
    · intro a W hd hS hdep hfree
      have x12 : a.tmps.getD 12 undef = .string ((w16 sp) ++ (w16 dp)) := hdep 6 12 rfl rfl
      clear hd hdep hfree
      simp only [Oper.wp, execOp]
      go_simp
      refine Nxt.mk _ rfl (fun _ _ => ?_) hS (fun _ _ h => h)
      rfl
  intro a W2 hs hd hS2 hdone hrest
  have ea := written_all [.pointer (some ⟨w.heap.size, 1, none⟩), .int .i64 sp, .string (w16 sp), .pointer (some ⟨w.heap.size, 2, none⟩), .int .i64 dp, .string (w16 dp), .string ((w16 sp) ++ (w16 dp)), .string ((w16 sp) ++ (w16 dp))] rfl hs hd hrest hdone
  clear hs hd hdone hrest
  subst ea
  simp only [written, List.map_cons, List.map_nil, List.zip_cons_cons, List.zip_nil_right, putAll]
  simp only [Exit.then, Act.put, List.setIfInBounds_toArray, List.set_cons_zero, List.set_cons_succ]
  have hg2 : w.heap.size < W2.heap.size := Nat.lt_of_lt_of_le hg1 hS2.size
  have HB2 := Lib.hid (HB1.out.below hS2 hg1)
  have hb02 := below_comp hb01 hS2
  have c0 : W2.cell? ⟨w.heap.size, 0, none⟩ = some (.int .i64 6) := HB2.out.cell 0 (by simp)
  clear hS2
  go_wp2_with (go_at_call 112; refine (HL.out _).mono ?_; rintro e w' ⟨rfl, rfl⟩)
  clear c0
  refine wp_region_values (by kernel_rfl) (fun W => Below W2.heap.size W2 W) (Vals [.string ((w16 sp) ++ (w16 dp)), .pointer (some ⟨w.heap.size, 3, none⟩), .int .i64 q, .string (w32 q), .string (((w16 sp) ++ (w16 dp)) ++ (w32 q)), .pointer (some ⟨w.heap.size, 4, none⟩), .int .i64 c, .string (w32 c), .string ((((w16 sp) ++ (w16 dp)) ++ (w32 q)) ++ (w32 c)), .pointer (some ⟨w.heap.size, 5, none⟩), .int .i64 f, .int .u8 (f % 256), undef, .string (two 80 (f % 256)), .string (((((w16 sp) ++ (w16 dp)) ++ (w32 q)) ++ (w32 c)) ++ (two 80 (f % 256))), .pointer (some ⟨w.heap.size, 6, none⟩), .int .i64 n, .string (w16 n), .string ((((((w16 sp) ++ (w16 dp)) ++ (w32 q)) ++ (w32 c)) ++ (two 80 (f % 256))) ++ (w16 n)), .int .i64 m, .string (w16 m), .string (((((((w16 sp) ++ (w16 dp)) ++ (w32 q)) ++ (w32 c)) ++ (two 80 (f % 256))) ++ (w16 n)) ++ (w16 m)), .string (w16 0), .string ((((((((w16 sp) ++ (w16 dp)) ++ (w32 q)) ++ (w32 c)) ++ (two 80 (f % 256))) ++ (w16 n)) ++ (w16 m)) ++ (w16 0)), .pointer (some ⟨w.heap.size, 7, none⟩), .string b, .string (((((((((w16 sp) ++ (w16 dp)) ++ (w32 q)) ++ (w32 c)) ++ (two 80 (f % 256))) ++ (w16 n)) ++ (w16 m)) ++ (w16 0)) ++ b), .string (((((((((w16 sp) ++ (w16 dp)) ++ (w32 q)) ++ (w32 c)) ++ (two 80 (f % 256))) ++ (w16 n)) ++ (w16 m)) ++ (w16 0)) ++ b)] [(12, #[.int .u8 80, .int .u8 (f % 256)], 5, 2)])
    57 rfl (by kernel_rfl) (by kernel_rfl) below_drew (eachOp_all ?_) ?_
  · refine ⟨?_, ?_, ?_, ?_, ?_, ?_, ?_, ?_, ?_, ?_, ?_, ?_, ?_, ?_, ?_, ?_, ?_, ?_, ?_, ?_, ?_, ?_, ?_, ?_, ?_, ?_, ?_, ?_, trivial⟩
    · intro a W hd hS hdep hfree
      have x5 : a.tmps.getD 5 undef = .string ((w16 sp) ++ (w16 dp)) := hfree 5 rfl
      clear hd hdep hfree
      simp only [Oper.wp, execOp]
      go_simp
      refine Nxt.mk _ rfl (fun _ _ => ?_) hS (fun _ _ h => h)
      rfl
    · intro a W hd hS hdep hfree
      have x2 : a.tmps.getD 2 undef = .pointer (some ⟨w.heap.size, 0, none⟩) := hfree 2 rfl
      clear hd hdep hfree
      simp only [Oper.wp, execOp]
      go_simp
      refine Nxt.mk _ rfl (fun _ _ => ?_) hS (fun _ _ h => h)
      rfl
    · intro a W hd hS hdep hfree
      have x31 : a.tmps.getD 31 undef = .pointer (some ⟨w.heap.size, 3, none⟩) := hdep 1 31 rfl rfl
      clear hd hdep hfree
      have c : W.cell? ⟨w.heap.size, 3, none⟩ = some (.int .i64 q) := (HB2.out.below hS hg2).cell 3 (by simp)
      simp only [Oper.wp, execOp]
      go_simp
      refine Nxt.mk _ rfl (fun _ _ => ?_) hS (fun _ _ h => h)
      rfl
    · intro a W hd hS hdep hfree
      have x32 : a.tmps.getD 32 undef = .int .i64 q := hdep 2 32 rfl rfl
      clear hd hdep hfree
      simp only [Oper.wp, execOp]
      go_simp
      refine (HW_q.out W).mono ?_
      rintro e W' ⟨rfl, hb⟩
      exact Nxt.mk _ rfl (fun _ _ => rfl) (below_comp hS hb) (fun j u h => Vals.below hb j u h)
    · intro a W hd hS hdep hfree
      have x30 : a.tmps.getD 30 undef = .string ((w16 sp) ++ (w16 dp)) := hdep 0 30 rfl rfl
      have x33 : a.tmps.getD 33 undef = .string (w32 q) := hdep 3 33 rfl rfl
      clear hd hdep hfree
      have k : ¬ 9223372036854775807 < ((w16 sp) ++ (w16 dp)).size + (w32 q).size := by (try simp only [ByteArray.size_append]); omega
      have k2 := k
      try simp only [ByteArray.size_append] at k2
      simp only [Oper.wp, execOp]
      go_simp
      refine Nxt.mk _ rfl (fun _ _ => ?_) hS (fun _ _ h => h)
      rfl
    · intro a W hd hS hdep hfree
      have x2 : a.tmps.getD 2 undef = .pointer (some ⟨w.heap.size, 0, none⟩) := hfree 2 rfl
      clear hd hdep hfree
      simp only [Oper.wp, execOp]
      go_simp
      refine Nxt.mk _ rfl (fun _ _ => ?_) hS (fun _ _ h => h)
      rfl
    · intro a W hd hS hdep hfree
      have x35 : a.tmps.getD 35 undef = .pointer (some ⟨w.heap.size, 4, none⟩) := hdep 5 35 rfl rfl
      clear hd hdep hfree
      have c : W.cell? ⟨w.heap.size, 4, none⟩ = some (.int .i64 c) := (HB2.out.below hS hg2).cell 4 (by simp)
      simp only [Oper.wp, execOp]
      go_simp
      refine Nxt.mk _ rfl (fun _ _ => ?_) hS (fun _ _ h => h)
      rfl
    · intro a W hd hS hdep hfree
      have x36 : a.tmps.getD 36 undef = .int .i64 c := hdep 6 36 rfl rfl
      clear hd hdep hfree
      simp only [Oper.wp, execOp]
      go_simp
      refine (HW_c.out W).mono ?_
      rintro e W' ⟨rfl, hb⟩
      exact Nxt.mk _ rfl (fun _ _ => rfl) (below_comp hS hb) (fun j u h => Vals.below hb j u h)
    · intro a W hd hS hdep hfree
      have x34 : a.tmps.getD 34 undef = .string (((w16 sp) ++ (w16 dp)) ++ (w32 q)) := hdep 4 34 rfl rfl
      have x37 : a.tmps.getD 37 undef = .string (w32 c) := hdep 7 37 rfl rfl
      clear hd hdep hfree
      have k : ¬ 9223372036854775807 < (((w16 sp) ++ (w16 dp)) ++ (w32 q)).size + (w32 c).size := by (try simp only [ByteArray.size_append]); omega
      have k2 := k
      try simp only [ByteArray.size_append] at k2
      simp only [Oper.wp, execOp]
      go_simp
      refine Nxt.mk _ rfl (fun _ _ => ?_) hS (fun _ _ h => h)
      rfl
    · intro a W hd hS hdep hfree
      have x2 : a.tmps.getD 2 undef = .pointer (some ⟨w.heap.size, 0, none⟩) := hfree 2 rfl
      clear hd hdep hfree
      simp only [Oper.wp, execOp]
      go_simp
      refine Nxt.mk _ rfl (fun _ _ => ?_) hS (fun _ _ h => h)
      rfl
    · intro a W hd hS hdep hfree
      have x39 : a.tmps.getD 39 undef = .pointer (some ⟨w.heap.size, 5, none⟩) := hdep 9 39 rfl rfl
      clear hd hdep hfree
      have c : W.cell? ⟨w.heap.size, 5, none⟩ = some (.int .i64 f) := (HB2.out.below hS hg2).cell 5 (by simp)
      simp only [Oper.wp, execOp]
      go_simp
      refine Nxt.mk _ rfl (fun _ _ => ?_) hS (fun _ _ h => h)
      rfl
    · intro a W hd hS hdep hfree
      have x40 : a.tmps.getD 40 undef = .int .i64 f := hdep 10 40 rfl rfl
      clear hd hdep hfree
      simp only [Oper.wp, execOp]
      go_simp
      refine Nxt.mk _ rfl (fun _ _ => ?_) hS (fun _ _ h => h)
      rfl
    · intro a W hd hS hdep hfree
      have x41 : a.tmps.getD 41 undef = .int .u8 (f % 256) := hdep 11 41 rfl rfl
      have y41 : a.tmps[41]?.getD undef = .int .u8 (f % 256) := by rw [← Array.getD_eq_getD_getElem?]; exact x41
      clear hd hdep hfree
      simp only [Oper.wp, execOp]
      go_simp
      exact Nxt.mk _ rfl (fun _ _ => ⟨W.heap.size, rfl, heap_alloc_new W _, by simp⟩) (below_comp hS (below_new _)) (fun j u h => Vals.below (below_new _) j u h)
    · intro a W hd hS hdep hfree
      obtain ⟨g42, x42, hx42, hl42⟩ : SliceAt W (a.tmps.getD 42 undef) #[.int .u8 80, .int .u8 (f % 256)] 5 2 := hdep 12 42 rfl rfl
      clear hd hdep hfree
      have hcv := HC.out g42 W hx42
      simp only [Oper.wp, execOp]
      go_simp
      refine Nxt.mk _ rfl (fun _ _ => ?_) hS (fun _ _ h => h)
      rfl
    · intro a W hd hS hdep hfree
      have x38 : a.tmps.getD 38 undef = .string ((((w16 sp) ++ (w16 dp)) ++ (w32 q)) ++ (w32 c)) := hdep 8 38 rfl rfl
      have x43 : a.tmps.getD 43 undef = .string (two 80 (f % 256)) := hdep 13 43 rfl rfl
      clear hd hdep hfree
      have k : ¬ 9223372036854775807 < ((((w16 sp) ++ (w16 dp)) ++ (w32 q)) ++ (w32 c)).size + (two 80 (f % 256)).size := by (try simp only [ByteArray.size_append]); omega
      have k2 := k
      try simp only [ByteArray.size_append] at k2
      simp only [Oper.wp, execOp]
      go_simp
      refine Nxt.mk _ rfl (fun _ _ => ?_) hS (fun _ _ h => h)
      rfl
    · intro a W hd hS hdep hfree
      have x2 : a.tmps.getD 2 undef = .pointer (some ⟨w.heap.size, 0, none⟩) := hfree 2 rfl
      clear hd hdep hfree
      simp only [Oper.wp, execOp]
      go_simp
      refine Nxt.mk _ rfl (fun _ _ => ?_) hS (fun _ _ h => h)
      rfl
    · intro a W hd hS hdep hfree
      have x45 : a.tmps.getD 45 undef = .pointer (some ⟨w.heap.size, 6, none⟩) := hdep 15 45 rfl rfl
      clear hd hdep hfree
      have c : W.cell? ⟨w.heap.size, 6, none⟩ = some (.int .i64 n) := (HB2.out.below hS hg2).cell 6 (by simp)
      simp only [Oper.wp, execOp]
      go_simp
      refine Nxt.mk _ rfl (fun _ _ => ?_) hS (fun _ _ h => h)
      rfl
    · intro a W hd hS hdep hfree
      have x46 : a.tmps.getD 46 undef = .int .i64 n := hdep 16 46 rfl rfl
      clear hd hdep hfree
      simp only [Oper.wp, execOp]
      go_simp
      refine (HWn.out W).mono ?_
      rintro e W' ⟨rfl, hb⟩
      exact Nxt.mk _ rfl (fun _ _ => rfl) (below_comp hS hb) (fun j u h => Vals.below hb j u h)
    · intro a W hd hS hdep hfree
      have x44 : a.tmps.getD 44 undef = .string (((((w16 sp) ++ (w16 dp)) ++ (w32 q)) ++ (w32 c)) ++ (two 80 (f % 256))) := hdep 14 44 rfl rfl
      have x47 : a.tmps.getD 47 undef = .string (w16 n) := hdep 17 47 rfl rfl
      clear hd hdep hfree
      have k : ¬ 9223372036854775807 < (((((w16 sp) ++ (w16 dp)) ++ (w32 q)) ++ (w32 c)) ++ (two 80 (f % 256))).size + (w16 n).size := by (try simp only [ByteArray.size_append]); omega
      have k2 := k
      try simp only [ByteArray.size_append] at k2
      simp only [Oper.wp, execOp]
      go_simp
      refine Nxt.mk _ rfl (fun _ _ => ?_) hS (fun _ _ h => h)
      rfl
    · intro a W hd hS hdep hfree
      have x1 : a.tmps.getD 1 undef = .int .i64 m := hfree 1 rfl
      clear hd hdep hfree
      simp only [Oper.wp, execOp]
      go_simp
      refine Nxt.mk _ rfl (fun _ _ => ?_) hS (fun _ _ h => h)
      rfl
    · intro a W hd hS hdep hfree
      have x49 : a.tmps.getD 49 undef = .int .i64 m := hdep 19 49 rfl rfl
      clear hd hdep hfree
      simp only [Oper.wp, execOp]
      go_simp
      refine (HWm.out W).mono ?_
      rintro e W' ⟨rfl, hb⟩
      exact Nxt.mk _ rfl (fun _ _ => rfl) (below_comp hS hb) (fun j u h => Vals.below hb j u h)
    · intro a W hd hS hdep hfree
      have x48 : a.tmps.getD 48 undef = .string ((((((w16 sp) ++ (w16 dp)) ++ (w32 q)) ++ (w32 c)) ++ (two 80 (f % 256))) ++ (w16 n)) := hdep 18 48 rfl rfl
      have x50 : a.tmps.getD 50 undef = .string (w16 m) := hdep 20 50 rfl rfl
      clear hd hdep hfree
      have k : ¬ 9223372036854775807 < ((((((w16 sp) ++ (w16 dp)) ++ (w32 q)) ++ (w32 c)) ++ (two 80 (f % 256))) ++ (w16 n)).size + (w16 m).size := by (try simp only [ByteArray.size_append]); omega
      have k2 := k
      try simp only [ByteArray.size_append] at k2
      simp only [Oper.wp, execOp]
      go_simp
      refine Nxt.mk _ rfl (fun _ _ => ?_) hS (fun _ _ h => h)
      rfl
    · intro a W hd hS hdep hfree
      clear hd hdep hfree
      simp only [Oper.wp, execOp]
      go_simp
      refine (HW0.out W).mono ?_
      rintro e W' ⟨rfl, hb⟩
      exact Nxt.mk _ rfl (fun _ _ => rfl) (below_comp hS hb) (fun j u h => Vals.below hb j u h)
    · intro a W hd hS hdep hfree
      have x51 : a.tmps.getD 51 undef = .string (((((((w16 sp) ++ (w16 dp)) ++ (w32 q)) ++ (w32 c)) ++ (two 80 (f % 256))) ++ (w16 n)) ++ (w16 m)) := hdep 21 51 rfl rfl
      have x52 : a.tmps.getD 52 undef = .string (w16 0) := hdep 22 52 rfl rfl
      clear hd hdep hfree
      have k : ¬ 9223372036854775807 < (((((((w16 sp) ++ (w16 dp)) ++ (w32 q)) ++ (w32 c)) ++ (two 80 (f % 256))) ++ (w16 n)) ++ (w16 m)).size + (w16 0).size := by (try simp only [ByteArray.size_append]); omega
      have k2 := k
      try simp only [ByteArray.size_append] at k2
      simp only [Oper.wp, execOp]
      go_simp
      refine Nxt.mk _ rfl (fun _ _ => ?_) hS (fun _ _ h => h)
      rfl
    · intro a W hd hS hdep hfree
      have x2 : a.tmps.getD 2 undef = .pointer (some ⟨w.heap.size, 0, none⟩) := hfree 2 rfl
      clear hd hdep hfree
      simp only [Oper.wp, execOp]
      go_simp
      refine Nxt.mk _ rfl (fun _ _ => ?_) hS (fun _ _ h => h)
      rfl
    · intro a W hd hS hdep hfree
      have x54 : a.tmps.getD 54 undef = .pointer (some ⟨w.heap.size, 7, none⟩) := hdep 24 54 rfl rfl
      clear hd hdep hfree
      have c : W.cell? ⟨w.heap.size, 7, none⟩ = some (.string b) := (HB2.out.below hS hg2).cell 7 (by simp)
      simp only [Oper.wp, execOp]
      go_simp
      refine Nxt.mk _ rfl (fun _ _ => ?_) hS (fun _ _ h => h)
      rfl
    · intro a W hd hS hdep hfree
      have x53 : a.tmps.getD 53 undef = .string ((((((((w16 sp) ++ (w16 dp)) ++ (w32 q)) ++ (w32 c)) ++ (two 80 (f % 256))) ++ (w16 n)) ++ (w16 m)) ++ (w16 0)) := hdep 23 53 rfl rfl
      have x55 : a.tmps.getD 55 undef = .string b := hdep 25 55 rfl rfl
      clear hd hdep hfree
      have k : ¬ 9223372036854775807 < ((((((((w16 sp) ++ (w16 dp)) ++ (w32 q)) ++ (w32 c)) ++ (two 80 (f % 256))) ++ (w16 n)) ++ (w16 m)) ++ (w16 0)).size + b.size := by (try simp only [ByteArray.size_append]); omega
      have k2 := k
      try simp only [ByteArray.size_append] at k2
      simp only [Oper.wp, execOp]
      go_simp
      refine Nxt.mk _ rfl (fun _ _ => ?_) hS (fun _ _ h => h)
      rfl
    · intro a W hd hS hdep hfree
      have x56 : a.tmps.getD 56 undef = .string (((((((((w16 sp) ++ (w16 dp)) ++ (w32 q)) ++ (w32 c)) ++ (two 80 (f % 256))) ++ (w16 n)) ++ (w16 m)) ++ (w16 0)) ++ b) := hdep 26 56 rfl rfl
      clear hd hdep hfree
      simp only [Oper.wp, execOp]
      go_simp
      refine Nxt.mk _ rfl (fun _ _ => ?_) hS (fun _ _ h => h)
      rfl
  intro a W3 hs hd hS3 hdone hrest
  obtain ⟨u42, hu42⟩ : ∃ u, a.tmps.getD 42 undef = u := ⟨_, rfl⟩
  have ea := written_all [.string ((w16 sp) ++ (w16 dp)), .pointer (some ⟨w.heap.size, 3, none⟩), .int .i64 q, .string (w32 q), .string (((w16 sp) ++ (w16 dp)) ++ (w32 q)), .pointer (some ⟨w.heap.size, 4, none⟩), .int .i64 c, .string (w32 c), .string ((((w16 sp) ++ (w16 dp)) ++ (w32 q)) ++ (w32 c)), .pointer (some ⟨w.heap.size, 5, none⟩), .int .i64 f, .int .u8 (f % 256), u42, .string (two 80 (f % 256)), .string (((((w16 sp) ++ (w16 dp)) ++ (w32 q)) ++ (w32 c)) ++ (two 80 (f % 256))), .pointer (some ⟨w.heap.size, 6, none⟩), .int .i64 n, .string (w16 n), .string ((((((w16 sp) ++ (w16 dp)) ++ (w32 q)) ++ (w32 c)) ++ (two 80 (f % 256))) ++ (w16 n)), .int .i64 m, .string (w16 m), .string (((((((w16 sp) ++ (w16 dp)) ++ (w32 q)) ++ (w32 c)) ++ (two 80 (f % 256))) ++ (w16 n)) ++ (w16 m)), .string (w16 0), .string ((((((((w16 sp) ++ (w16 dp)) ++ (w32 q)) ++ (w32 c)) ++ (two 80 (f % 256))) ++ (w16 n)) ++ (w16 m)) ++ (w16 0)), .pointer (some ⟨w.heap.size, 7, none⟩), .string b, .string (((((((((w16 sp) ++ (w16 dp)) ++ (w32 q)) ++ (w32 c)) ++ (two 80 (f % 256))) ++ (w16 n)) ++ (w16 m)) ++ (w16 0)) ++ b), .string (((((((((w16 sp) ++ (w16 dp)) ++ (w32 q)) ++ (w32 c)) ++ (two 80 (f % 256))) ++ (w16 n)) ++ (w16 m)) ++ (w16 0)) ++ b)] rfl hs hd hrest (fun j d hj => by
    have h := hdone j d hj
    match j, hj, h with
    | 0, _, h => exact h
    | 1, _, h => exact h
    | 2, _, h => exact h
    | 3, _, h => exact h
    | 4, _, h => exact h
    | 5, _, h => exact h
    | 6, _, h => exact h
    | 7, _, h => exact h
    | 8, _, h => exact h
    | 9, _, h => exact h
    | 10, _, h => exact h
    | 11, _, h => exact h
    | 12, hj, _ => exact (Option.some.inj hj) ▸ hu42
    | 13, _, h => exact h
    | 14, _, h => exact h
    | 15, _, h => exact h
    | 16, _, h => exact h
    | 17, _, h => exact h
    | 18, _, h => exact h
    | 19, _, h => exact h
    | 20, _, h => exact h
    | 21, _, h => exact h
    | 22, _, h => exact h
    | 23, _, h => exact h
    | 24, _, h => exact h
    | 25, _, h => exact h
    | 26, _, h => exact h
    | 27, _, h => exact h
    | n + 28, hj, _ => exact absurd (dstOf_lt hj) (by simp))
  clear hu42
  clear hs hd hdone hrest
  subst ea
  simp only [written, List.map_cons, List.map_nil, List.zip_cons_cons, List.zip_nil_right, putAll]
  simp only [Exit.then, Act.put, List.setIfInBounds_toArray, List.set_cons_zero, List.set_cons_succ]
  go_wp2
  go_ret
  exact ⟨rfl, below_comp hb02 hS3⟩

end Go.Proofs.Ytbidaccdjnbhfaa

/- The program's Get16. -/
namespace Go.Proofs.Ytbidaccdjnbhfaa
open Go.RowKit

theorem impl_get16 (s : ByteArray) (p : Int) (w : World) (hs : s.size ≤ maxLen) (hp : -9223372036854775808 ≤ p ∧ p ≤ 9223372036854775807) :
    Calls Try.prog 155 #[.string s, .int .i64 p] w fun e w' => e = .returned (.int .i64 (get16 s p)) ∧ ∃ m, w' = w.drewN m := by
  unfold maxLen at hs
  by_cases h : 0 ≤ p ∧ p + 2 ≤ s.size
  · obtain ⟨n, rfl⟩ : ∃ n : Nat, p = n := ⟨p.toNat, by omega⟩
    have h1 : n + 1 < s.size := by omega
    have HG : Hid (get16 s n = (s[n].toNat : Int) * 256 + (s[n + 1].toNat : Int)) := Lib.hid (by rw [get16_in s n (by omega), byteI_at s n (by omega), byteI_at s (n + 1) h1])
    have b1 : s[n].toNat < 256 := UInt8.toNat_lt _
    have b2 : s[n + 1].toNat < 256 := UInt8.toNat_lt _
    have c1 : (n : Int) ≤ (s.size : Int) - 2 := by omega
    have c0 : (0 : Int) ≤ (n : Int) := by omega
    have eo := or_8 (s[n].toNat : Int) (s[n + 1].toNat : Int) (by omega) (by omega)
    go_enter Try.func155, Try.ntmps155
    have c3 : (n : Int) < (s.size : Int) := by omega
    have c4 : (n : Int) + 1 < (s.size : Int) := by omega
    have c5 : (0 : Int) ≤ (n : Int) + 1 := by omega
    have e1 : ((n : Int) + 1).toNat = n + 1 := by omega
    have e2 : IntKind.i64.wrap ((n : Int) + 1) = (n : Int) + 1 := wrap_in _ (by omega) (by omega)
    have e3 : IntKind.i64.wrap (s[n].toNat : Int) = s[n].toNat := wrap_in _ (by omega) (by omega)
    have e4 : IntKind.i64.wrap (s[n + 1].toNat : Int) = s[n + 1].toNat := wrap_in _ (by omega) (by omega)
    go_wp2_with go_in
    go_quiet (fail)
    go_wp2
    go_ret
    exact ⟨by rw [HG.out]; rfl, _, rfl⟩
  · have HG := Lib.hid (get16_out s p h)
    by_cases h0 : 0 ≤ p
    · have h2 : ¬ p ≤ (s.size : Int) - 2 := by omega
      clear h
      go_enter Try.func155, Try.ntmps155
      go_wp2
      go_ret
      exact ⟨by rw [HG.out]; rfl, 0, rfl⟩
    · clear h
      go_enter Try.func155, Try.ntmps155
      go_wp2
      go_ret
      exact ⟨by rw [HG.out]; rfl, 0, rfl⟩
theorem impl_get16_any (s : ByteArray) (p : Int) (w : World) (hs : s.size ≤ maxLen) (hp : -9223372036854775808 ≤ p ∧ p ≤ 9223372036854775807) :
    Calls Try.prog 155 #[.string s, .int .i64 p] w fun e w' => e = .returned (.int .i64 (get16 s p)) ∧ Below w.heap.size w w' :=
  (impl_get16 s p w hs hp).mono fun _ _ ⟨h1, m, h2⟩ => ⟨h1, h2 ▸ below_of_drewN w m⟩

end Go.Proofs.Ytbidaccdjnbhfaa

/- Contracts of the program's changes of byte strings, and of its sums. -/
namespace Go.Proofs.Ytbidaccdjnbhfaa
open Go.RowKit

theorem impl_add (a b : Int) (w : World) (ha : -9223372036854775808 ≤ a ∧ a ≤ 9223372036854775807) (hb : -9223372036854775808 ≤ b ∧ b ≤ 9223372036854775807) :
    Calls Try.prog 154 #[.int .i64 a, .int .i64 b] w fun e w' => e = .returned (.int .i64 (addS a b)) ∧ w = w' := by
  by_cases h1 : 0 ≤ a
  · by_cases h2 : a ≤ 65535
    · by_cases h3 : 0 ≤ b
      · by_cases h4 : b ≤ 65535
        · by_cases h5 : 65535 < a + b
          all_goals
            go_enter Try.func154, Try.ntmps154
            go_wp2
            go_ret
            exact ⟨ret_int (by unfold addS; rw [if_pos ⟨h1, h2, h3, h4⟩]; first | rw [if_pos (by omega)] | rw [if_neg (by omega)]), rfl⟩
        · go_enter Try.func154, Try.ntmps154
          go_wp2
          go_ret
          exact ⟨ret_int (by unfold addS; rw [if_neg (by omega)]), rfl⟩
      · go_enter Try.func154, Try.ntmps154
        go_wp2
        go_ret
        exact ⟨ret_int (by unfold addS; rw [if_neg (by omega)]), rfl⟩
    · go_enter Try.func154, Try.ntmps154
      go_wp2
      go_ret
      exact ⟨ret_int (by unfold addS; rw [if_neg (by omega)]), rfl⟩
  · go_enter Try.func154, Try.ntmps154
    go_wp2
    go_ret
    exact ⟨ret_int (by unfold addS; rw [if_neg (by omega)]), rfl⟩

theorem impl_put (s t : ByteArray) (p : Int) (w : World) (hs : s.size ≤ 4194304) (ht : t.size ≤ 4194304) (hp : -9223372036854775808 ≤ p ∧ p ≤ 9223372036854775807) :
    Calls Try.prog 146 #[.string s, .int .i64 p, .string t] w fun e w' => e = .returned (.string (put s p t)) ∧ ∃ m, w' = w.drewN m := by
  by_cases h : 0 ≤ p ∧ p + t.size ≤ s.size
  · obtain ⟨n, rfl⟩ : ∃ n : Nat, p = n := ⟨p.toNat, by omega⟩
    have h1 : n + t.size ≤ s.size := by omega
    have HG : Hid (put s n t = s.extract 0 n ++ t ++ s.extract (n + t.size) s.size) := Lib.hid (by unfold put; rw [if_pos h]; rfl)
    have z1 : (s.extract 0 n).size = n := by rw [ByteArray.size_extract]; omega
    have z2 : (s.extract 0 n ++ t).size ≤ 8388608 := by rw [ByteArray.size_append]; omega
    have z3 : (s.extract (n + t.size) s.size).size ≤ 4194304 := by rw [ByteArray.size_extract]; omega
    have Z1 : (s.extract 0 n).size ≤ 4194304 := by omega
    have c0 : (0 : Int) ≤ (n : Int) := by omega
    have c1 : (n : Int) ≤ (s.size : Int) - (t.size : Int) := by omega
    have c2 : (n : Int) ≤ (s.size : Int) := by omega
    clear z1
    go_enter Try.func146, Try.ntmps146
    go_wp2_with go_in
    go_quiet (fail)
    go_wp2
    go_ret
    exact ⟨by rw [HG.out]; rfl, _, rfl⟩
  · have HG : Hid (put s p t = s) := Lib.hid (by unfold put; rw [if_neg h])
    by_cases h0 : 0 ≤ p
    · have h2 : ¬ p ≤ (s.size : Int) - (t.size : Int) := by omega
      clear h
      go_enter Try.func146, Try.ntmps146
      go_wp2
      go_ret
      exact ⟨by rw [HG.out]; rfl, 0, rfl⟩
    · clear h
      go_enter Try.func146, Try.ntmps146
      go_wp2
      go_ret
      exact ⟨by rw [HG.out]; rfl, 0, rfl⟩

/-- The string with a zero byte behind an odd length. -/
def evenS (s : ByteArray) : ByteArray := if s.size % 2 = 0 then s else s ++ ⟨#[0]⟩
theorem evenS_even (s : ByteArray) : (evenS s).size % 2 = 0 := by
  unfold evenS
  split
  · assumption
  · rw [ByteArray.size_append]; show (s.size + 1) % 2 = 0; omega
theorem evenS_size (s : ByteArray) : (evenS s).size ≤ s.size + 1 := by
  unfold evenS
  split
  · omega
  · rw [ByteArray.size_append]; exact Nat.le_refl _
theorem sumL_zero : ∀ (l : List UInt8) (acc : Int), l.length % 2 = 1 → sumL acc (l ++ [0]) = sumL acc l
  | [], _, h => by simp at h
  | [a], acc, _ => by
    show addS acc ((a.toNat : Int) * 256 + ((0 : UInt8).toNat : Int)) = addS acc ((a.toNat : Int) * 256)
    rw [show ((0 : UInt8).toNat : Int) = 0 from rfl, Int.add_zero]
  | a :: b :: l, acc, h => by
    simp only [List.cons_append, sumL]
    exact sumL_zero l _ (by simp at h; omega)
theorem sumW_even (s : ByteArray) : sumW (evenS s) = sumW s := by
  unfold evenS
  split
  · rfl
  · unfold sumW
    rw [show (s ++ (⟨#[0]⟩ : ByteArray)).data.toList = s.data.toList ++ [0] from by simp]
    exact sumL_zero _ _ (by simp; omega)

theorem sum_pair (u : ByteArray) (k : Nat) (h : 2 * k + 1 < u.size) : addS (sumL 0 (u.data.toList.take (2 * k))) (get16 u (2 * (k : Int))) = sumL 0 (u.data.toList.take (2 * (k + 1))) := by
  have h1 := sum_two u (2 * k) h (by omega)
  have h2 := get16_in u (2 * k) (by omega)
  rw [show ((2 * k : Nat) : Int) = 2 * (k : Int) from by omega] at h2
  rw [h2, show 2 * (k + 1) = 2 * k + 2 from by omega]
  exact h1.symm
theorem get16_pair (u : ByteArray) (k : Nat) (h : 2 * k + 1 < u.size) : 0 ≤ get16 u (2 * (k : Int)) ∧ get16 u (2 * (k : Int)) ≤ 65535 := by
  have h2 := get16_bd u (2 * k) (by omega)
  rwa [show ((2 * k : Nat) : Int) = 2 * (k : Int) from by omega] at h2
theorem drewN_two (w : World) (a b : Nat) : ∃ n, (w.drewN a).drewN b = w.drewN n := ⟨a + b, by rw [World.drewN_drewN]⟩

set_option maxHeartbeats 1000000 in
theorem impl_sum (s : ByteArray) (w : World) (hs : s.size ≤ 4194304) :
    Calls Try.prog 144 #[.string s] w fun e w' => e = .returned (.int .i64 (sumW s)) ∧ ∃ m, w' = w.drewN m := by
  by_cases hp : s.size % 2 = 0
  case' pos =>
    have e1 : ((s.size : Int) % 2 != 0) = false := by rw [show (s.size : Int) % 2 = 0 from by omega]; rfl
    obtain ⟨u, HU⟩ : ∃ u, Hid (s = u ∧ sumW u = sumW s) := ⟨s, Lib.hid ⟨rfl, rfl⟩⟩
    have hu : u.size ≤ 4194305 := by rw [← HU.out.1]; omega
    have he : u.size % 2 = 0 := by rw [← HU.out.1]; omega
    rw [HU.out.1] at e1 ⊢
  case' neg =>
    have e1 : ((s.size : Int) % 2 != 0) = true := by rw [show (s.size : Int) % 2 = 1 from by omega]; rfl
    obtain ⟨u, HU⟩ : ∃ u, Hid (s ++ (⟨#[0]⟩ : ByteArray) = u ∧ sumW u = sumW s) := ⟨s ++ ⟨#[0]⟩, Lib.hid ⟨rfl, by have := sumW_even s; unfold evenS at this; rwa [if_neg hp] at this⟩⟩
    have hu : u.size ≤ 4194305 := by rw [← HU.out.1, ByteArray.size_append]; show s.size + 1 ≤ _; omega
    have he : u.size % 2 = 0 := by rw [← HU.out.1, ByteArray.size_append]; show (s.size + 1) % 2 = 0; omega
    have z1 : s.size + (⟨#[0]⟩ : ByteArray).size ≤ 4194305 := by show s.size + 1 ≤ _; omega
    have ZZ : Hid (((s.size : Int) + 1) / 2 = (u.size : Int) / 2) := Lib.hid (by rw [← HU.out.1, ByteArray.size_append]; show _ = ((s.size + 1 : Nat) : Int) / 2; omega)
  all_goals
    have HE := Lib.hid he
    clear he hp
    go_enter Try.func144, Try.ntmps144
    go_wp2
    try rw [HU.out.1]
    try rw [ZZ.out]
    go_loopw [3, 14] (fun t i W => ∃ k : Nat, i = .int .i64 k ∧ 2 * k ≤ u.size ∧ (∃ d, W = w.drewN d) ∧ ∃ a : Int, t = .int .i64 a ∧ 0 ≤ a ∧ a ≤ 65535 ∧ Hid (a = sumL 0 (u.data.toList.take (2 * k)))) (fun _ i _ => u.size + 2 - (intOf i).toNat)
    case atStart => exact ⟨0, rfl, by omega, ⟨0, rfl⟩, 0, rfl, by omega, by omega, Lib.hid rfl⟩
    case round =>
      obtain ⟨k, rfl, hk, ⟨d, rfl⟩, a, rfl, a0, a1, HA⟩ := hrel
      by_cases hlt : 2 * k < u.size
      · have h2 : 2 * k + 1 < u.size := by have := HE.out; omega
        have c1 : (k : Int) < (u.size : Int) / 2 := by omega
        obtain ⟨b0, b1⟩ := get16_pair u k h2
        have HS : Hid (addS a (get16 u (2 * (k : Int))) = sumL 0 (u.data.toList.take (2 * (k + 1)))) := Lib.hid (by rw [HA.out]; exact sum_pair u k h2)
        have hb := addS_in a (get16 u (2 * (k : Int))) ⟨a0, a1, b0, b1⟩
        go_wp2_with (first
          | (go_at_call 154; refine (impl_add _ _ _ (by omega) (by omega)).mono ?_; rintro e w' ⟨rfl, rfl⟩)
          | (go_at_call 155; refine (impl_get16 _ _ _ (by unfold maxLen; omega) (by omega)).mono ?_; rintro e w' ⟨rfl, d1, rfl⟩))
        go_roundw
        case rel => exact ⟨k + 1, by go_num, by omega, ⟨_, rfl⟩, _, rfl, hb.1, hb.2, HS⟩
        case measure => simp [intOf] <;> omega
      · have HS : Hid (a = sumW s) := Lib.hid (by have := HA.out; rw [List.take_of_length_le (by simp; omega)] at this; rw [← HU.out.2]; exact this)
        have c1 : ¬ (k : Int) < (u.size : Int) / 2 := by omega
        go_wp2
        go_ret
        first | exact ⟨ret_int HS.out, _, rfl⟩ | exact ⟨ret_int (HS.out.trans HU.out.2.symm), _, rfl⟩
theorem impl_checksum (s : ByteArray) (w : World) (hs : s.size ≤ 4194304) :
    Calls Try.prog 134 #[.string s] w fun e w' => e = .returned (.int .i64 (65535 - sumW s)) ∧ ∃ m, w' = w.drewN m := by
  have hb := sumW_bd s
  obtain ⟨b0, b1⟩ := hb
  go_enter Try.func134, Try.ntmps134
  go_wp2_with (go_at_call 144; refine (impl_sum s _ hs).mono ?_; rintro e w' ⟨rfl, m, rfl⟩)
  go_ret
  exact ⟨rfl, _, rfl⟩

theorem impl_put_any (s : ByteArray) (p : Int) (t : ByteArray) (w : World) (hs : s.size ≤ 4194304) (ht : t.size ≤ 4194304) (hp : -9223372036854775808 ≤ p ∧ p ≤ 9223372036854775807) :
    Calls Try.prog 146 #[.string s, .int .i64 p, .string t] w fun e w' => e = .returned (.string (put s p t)) ∧ Below w.heap.size w w' :=
  (impl_put s t p w hs ht hp).mono fun _ _ ⟨h1, m, h2⟩ => ⟨h1, h2 ▸ below_of_drewN w m⟩
theorem impl_add_any (a b : Int) (w : World) (ha : -9223372036854775808 ≤ a ∧ a ≤ 9223372036854775807) (hb : -9223372036854775808 ≤ b ∧ b ≤ 9223372036854775807) :
    Calls Try.prog 154 #[.int .i64 a, .int .i64 b] w fun e w' => e = .returned (.int .i64 (addS a b)) ∧ Below w.heap.size w w' :=
  (impl_add a b w ha hb).mono fun _ _ hh => ⟨hh.1, hh.2 ▸ Below.refl _ _⟩
theorem impl_sum_any (s : ByteArray) (w : World) (hs : s.size ≤ 4194304) :
    Calls Try.prog 144 #[.string s] w fun e w' => e = .returned (.int .i64 (sumW s)) ∧ Below w.heap.size w w' :=
  (impl_sum s w hs).mono fun _ _ ⟨h1, m, h2⟩ => ⟨h1, h2 ▸ below_of_drewN w m⟩
theorem impl_checksum_any (s : ByteArray) (w : World) (hs : s.size ≤ 4194304) :
    Calls Try.prog 134 #[.string s] w fun e w' => e = .returned (.int .i64 (65535 - sumW s)) ∧ Below w.heap.size w w' :=
  (impl_checksum s w hs).mono fun _ _ ⟨h1, m, h2⟩ => ⟨h1, h2 ▸ below_of_drewN w m⟩
end Go.Proofs.Ytbidaccdjnbhfaa

/- The program's BuildSegment, at segments that can be sent. -/
namespace Go.Proofs.Ytbidaccdjnbhfaa
open Go.RowKit
set_option linter.unusedSimpArgs false
set_option linter.unusedVariables false

set_option maxHeartbeats 4000000 in
set_option maxRecDepth 100000 in
theorem impl_seg_udp_yes (s d sp dp q c f n : Int) (b : ByteArray) (w : World) (hok : SegM.Ok ⟨17, sp, dp, q, c, f, n, b⟩) (hp :  pseudoOk s d 17 (SegM.len ⟨17, sp, dp, q, c, f, n, b⟩)) :
    Calls Try.prog 118 #[.int .i64 s, .int .i64 d, .agg #[.int .i64 17, .int .i64 sp, .int .i64 dp, .int .i64 q, .int .i64 c, .int .i64 f, .int .i64 n, .string b]] w fun r w' => r = .returned (.tuple #[.string (SegM.udp ⟨17, sp, dp, q, c, f, n, b⟩ (SegM.check ⟨17, sp, dp, q, c, f, n, b⟩ s d)), .bool true]) ∧ Below w.heap.size w w' := by
  have HV : Hid (∀ w1, Calls Try.prog 96 #[.agg #[.int .i64 17, .int .i64 sp, .int .i64 dp, .int .i64 q, .int .i64 c, .int .i64 f, .int .i64 n, .string b]] w1 fun r w' => r = .returned (.bool true) ∧ Below w1.heap.size w1 w') := Lib.hid fun w1 => by have := impl_segmentok ⟨17, sp, dp, q, c, f, n, b⟩ w1; rwa [decide_eq_true hok] at this
  obtain ⟨h1, h2, h7, hk⟩ := hok
  dsimp only at h1 h2 h7 hk
  have HP := Lib.hid hp
  clear hp
  obtain ⟨h3, h4, h5, h6⟩ : (0 ≤ q ∧ q ≤ 4294967295) ∧ (0 ≤ c ∧ c ≤ 4294967295) ∧ (0 ≤ f ∧ f ≤ 31) ∧ (0 ≤ n ∧ n ≤ 65535) := by omega
  clear hk
  obtain ⟨T, HT⟩ : ∃ T : ByteArray, Hid (SegM.udp ⟨17, sp, dp, q, c, f, n, b⟩ 0 = T) := ⟨_, Lib.hid rfl⟩
  have HL : Hid (SegM.len ⟨17, sp, dp, q, c, f, n, b⟩ = (T.size : Int)) := Lib.hid (by rw [← HT.out]; rfl)
  have hT : T.size ≤ 340 := by rw [← HT.out, SegM.udp_size]; show _ + b.size ≤ 340; omega
  have HW0 := Lib.hid fun W => (by have := impl_with_udp sp dp q c f n b 0 W h1 h2 h3 h4 h5 h6 h7 (by decide); rwa [HT.out] at this : Calls Try.prog 132 #[.agg #[.int .i64 17, .int .i64 sp, .int .i64 dp, .int .i64 q, .int .i64 c, .int .i64 f, .int .i64 n, .string b], .int .i64 0] W fun r w' => r = .returned (.string T) ∧ Below W.heap.size W w')
  have HLy : Hid (∀ W, _) := Lib.hid fun W => layout_17 W
  obtain ⟨P, HPP, hPs⟩ : ∃ P : ByteArray, Hid (pseudoB s d 17 (T.size : Int) = P) ∧ P.size ≤ 12 := ⟨_, Lib.hid rfl, by rw [pseudo_size]; omega⟩
  have HPs := Lib.hid fun W => (by have := impl_pseudo_yes s d 17 (T.size : Int) W (by rw [← HL.out]; exact HP.out); rwa [HPP.out] at this : Calls Try.prog 133 #[.int .i64 s, .int .i64 d, .int .i64 17, .int .i64 (T.size : Int)] W fun r w' => r = .returned (.tuple #[.string P, .bool true]) ∧ Below W.heap.size W w')
  obtain ⟨X, HX⟩ : ∃ X : Int, Hid (65535 - sumW (P ++ T) = X) := ⟨_, Lib.hid rfl⟩
  have hX : 0 ≤ X ∧ X ≤ 65535 := by have := sumW_bd (P ++ T); rw [← HX.out]; omega
  have HCk := Lib.hid fun W => (by have := impl_checksum_any (P ++ T) W (by rw [ByteArray.size_append]; omega); rwa [HX.out] at this : Calls Try.prog 134 #[.string (P ++ T)] W fun r w' => r = .returned (.int .i64 X) ∧ Below W.heap.size W w')
  have HRaw : Hid (SegM.raw ⟨17, sp, dp, q, c, f, n, b⟩ s d = X) := Lib.hid (by unfold SegM.raw; rw [HL.out, ← HX.out, ← HPP.out]; show 65535 - sumW (_ ++ SegM.udp _ 0) = _; rw [HT.out])
  have k2 : ¬ 9223372036854775807 < P.size + T.size := by omega
  rcases (show X = 0 ∨ X ≠ 0 by omega) with hx | hx
  case' inl =>
    obtain ⟨V, HVV, hV⟩ : ∃ V : Int, Hid (V = 65535 ∧ SegM.check ⟨17, sp, dp, q, c, f, n, b⟩ s d = V) ∧ 0 ≤ V ∧ V ≤ 65535 := ⟨65535, Lib.hid ⟨rfl, by unfold SegM.check; rw [HRaw.out, hx]; rfl⟩, by decide⟩
    subst hx
  case' inr =>
    have e0 : (X == 0) = false := by rw [beq_eq_false_iff_ne]; exact hx
    obtain ⟨V, HVV, hV⟩ : ∃ V : Int, Hid (V = X ∧ SegM.check ⟨17, sp, dp, q, c, f, n, b⟩ s d = V) ∧ 0 ≤ V ∧ V ≤ 65535 := ⟨X, Lib.hid ⟨rfl, by unfold SegM.check; rw [HRaw.out, if_neg (fun h => hx h.1)]⟩, hX⟩
    have hxi := Lib.hid hx
    clear hx
  all_goals
    have HWV := Lib.hid fun W => impl_with_udp sp dp q c f n b V W h1 h2 h3 h4 h5 h6 h7 hV
    have HRes : Hid (SegM.udp ⟨17, sp, dp, q, c, f, n, b⟩ V = SegM.udp ⟨17, sp, dp, q, c, f, n, b⟩ (SegM.check ⟨17, sp, dp, q, c, f, n, b⟩ s d)) := Lib.hid (by rw [HVV.out.2])
    obtain ⟨R, HR⟩ : ∃ R : ByteArray, Hid (SegM.udp ⟨17, sp, dp, q, c, f, n, b⟩ V = R) := ⟨_, Lib.hid rfl⟩
    rw [HR.out] at HWV HRes
    rw [HVV.out.1] at HWV
    clear hV hX h1 h2 h3 h4 h5 h6
    go_enter Try.func118, Try.ntmps118
    go_wp2_with (first
      | (go_at_call 96; refine (HV.out _).mono ?_; rintro e w1 ⟨rfl, hb⟩; obtain ⟨hc, hf, _⟩ := bcell hb; have hg : w.heap.size < w1.heap.size := by (have hz := hb.size; (try simp at hz); omega))
      | (go_at_call 132; ((with_reducible refine (HW0.out _).mono ?_); rintro e w1 ⟨rfl, hb⟩; have HW0 := HWV; obtain ⟨hc, hf, _⟩ := bcell hb; have hg : w.heap.size < w1.heap.size := by (have hz := hb.size; (try simp at hz); omega)))
      | (go_at_call 133; refine (HPs.out _).mono ?_; rintro e w1 ⟨rfl, hb⟩; obtain ⟨hc, hf, _⟩ := bcell hb; have hg : w.heap.size < w1.heap.size := by (have hz := hb.size; (try simp at hz); omega))
      | (go_at_call 134; refine (HCk.out _).mono ?_; rintro e w1 ⟨rfl, hb⟩; obtain ⟨hc, hf, _⟩ := bcell hb; have hg : w.heap.size < w1.heap.size := by (have hz := hb.size; (try simp at hz); omega))
      | (go_at_call 112; refine (HLy.out _).mono ?_; rintro e w1 ⟨rfl, rfl⟩))
    go_ret2
    refine ⟨ret_str_bool HRes.out rfl, ?_⟩
    repeat (first | exact Below.refl _ _ | exact below_new _ | (refine below_comp ?_ (by assumption)))

set_option maxHeartbeats 4000000 in
set_option maxRecDepth 100000 in
theorem impl_seg_udp_no (s d sp dp q c f n : Int) (b : ByteArray) (w : World) (hok : SegM.Ok ⟨17, sp, dp, q, c, f, n, b⟩) (hp : ¬ pseudoOk s d 17 (SegM.len ⟨17, sp, dp, q, c, f, n, b⟩)) :
    Calls Try.prog 118 #[.int .i64 s, .int .i64 d, .agg #[.int .i64 17, .int .i64 sp, .int .i64 dp, .int .i64 q, .int .i64 c, .int .i64 f, .int .i64 n, .string b]] w fun r w' => r = .returned (.tuple #[.string ⟨#[]⟩, .bool false]) ∧ Below w.heap.size w w' := by
  have HV : Hid (∀ w1, Calls Try.prog 96 #[.agg #[.int .i64 17, .int .i64 sp, .int .i64 dp, .int .i64 q, .int .i64 c, .int .i64 f, .int .i64 n, .string b]] w1 fun r w' => r = .returned (.bool true) ∧ Below w1.heap.size w1 w') := Lib.hid fun w1 => by have := impl_segmentok ⟨17, sp, dp, q, c, f, n, b⟩ w1; rwa [decide_eq_true hok] at this
  obtain ⟨h1, h2, h7, hk⟩ := hok
  dsimp only at h1 h2 h7 hk
  have HP := Lib.hid hp
  clear hp
  obtain ⟨h3, h4, h5, h6⟩ : (0 ≤ q ∧ q ≤ 4294967295) ∧ (0 ≤ c ∧ c ≤ 4294967295) ∧ (0 ≤ f ∧ f ≤ 31) ∧ (0 ≤ n ∧ n ≤ 65535) := by omega
  clear hk
  obtain ⟨T, HT⟩ : ∃ T : ByteArray, Hid (SegM.udp ⟨17, sp, dp, q, c, f, n, b⟩ 0 = T) := ⟨_, Lib.hid rfl⟩
  have HL : Hid (SegM.len ⟨17, sp, dp, q, c, f, n, b⟩ = (T.size : Int)) := Lib.hid (by rw [← HT.out]; rfl)
  have hT : T.size ≤ 340 := by rw [← HT.out, SegM.udp_size]; show _ + b.size ≤ 340; omega
  have HW0 := Lib.hid fun W => (by have := impl_with_udp sp dp q c f n b 0 W h1 h2 h3 h4 h5 h6 h7 (by decide); rwa [HT.out] at this : Calls Try.prog 132 #[.agg #[.int .i64 17, .int .i64 sp, .int .i64 dp, .int .i64 q, .int .i64 c, .int .i64 f, .int .i64 n, .string b], .int .i64 0] W fun r w' => r = .returned (.string T) ∧ Below W.heap.size W w')
  have HLy : Hid (∀ W, _) := Lib.hid fun W => layout_17 W
  obtain ⟨P, HPP, hPs⟩ : ∃ P : ByteArray, Hid (pseudoB s d 17 (T.size : Int) = P) ∧ P.size ≤ 12 := ⟨_, Lib.hid rfl, by rw [pseudo_size]; omega⟩
  have HPs := Lib.hid fun W => impl_pseudo_no s d 17 (T.size : Int) W (by rw [← HL.out]; exact HP.out)
  clear h1 h2 h3 h4 h5 h6
  go_enter Try.func118, Try.ntmps118
  go_wp2_with (first
    | (go_at_call 96; refine (HV.out _).mono ?_; rintro e w1 ⟨rfl, hb⟩; obtain ⟨hc, hf, _⟩ := bcell hb; have hg : w.heap.size < w1.heap.size := by (have hz := hb.size; (try simp at hz); omega))
    | (go_at_call 132; refine (HW0.out _).mono ?_; rintro e w1 ⟨rfl, hb⟩; obtain ⟨hc, hf, _⟩ := bcell hb; have hg : w.heap.size < w1.heap.size := by (have hz := hb.size; (try simp at hz); omega))
    | (go_at_call 133; refine (HPs.out _).mono ?_; rintro e w1 ⟨rfl, hb⟩; obtain ⟨hc, hf, _⟩ := bcell hb; have hg : w.heap.size < w1.heap.size := by (have hz := hb.size; (try simp at hz); omega)))
  go_ret2
  refine ⟨rfl, ?_⟩
  repeat (first | exact Below.refl _ _ | exact below_new _ | (refine below_comp ?_ (by assumption)))

set_option maxHeartbeats 4000000 in
set_option maxRecDepth 100000 in
theorem impl_seg_tcp_yes (s d sp dp q c f n : Int) (b : ByteArray) (w : World) (hok : SegM.Ok ⟨6, sp, dp, q, c, f, n, b⟩) (hp :  pseudoOk s d 6 (SegM.len ⟨6, sp, dp, q, c, f, n, b⟩)) :
    Calls Try.prog 118 #[.int .i64 s, .int .i64 d, .agg #[.int .i64 6, .int .i64 sp, .int .i64 dp, .int .i64 q, .int .i64 c, .int .i64 f, .int .i64 n, .string b]] w fun r w' => r = .returned (.tuple #[.string (SegM.tcp ⟨6, sp, dp, q, c, f, n, b⟩ (SegM.check ⟨6, sp, dp, q, c, f, n, b⟩ s d)), .bool true]) ∧ Below w.heap.size w w' := by
  have HV : Hid (∀ w1, Calls Try.prog 96 #[.agg #[.int .i64 6, .int .i64 sp, .int .i64 dp, .int .i64 q, .int .i64 c, .int .i64 f, .int .i64 n, .string b]] w1 fun r w' => r = .returned (.bool true) ∧ Below w1.heap.size w1 w') := Lib.hid fun w1 => by have := impl_segmentok ⟨6, sp, dp, q, c, f, n, b⟩ w1; rwa [decide_eq_true hok] at this
  obtain ⟨h1, h2, h7, hk⟩ := hok
  dsimp only at h1 h2 h7 hk
  have HP := Lib.hid hp
  clear hp
  obtain ⟨h3, h4, h5, h6⟩ : (0 ≤ q ∧ q ≤ 4294967295) ∧ (0 ≤ c ∧ c ≤ 4294967295) ∧ (0 ≤ f ∧ f ≤ 31) ∧ (0 ≤ n ∧ n ≤ 65535) := by omega
  clear hk
  obtain ⟨T, HT⟩ : ∃ T : ByteArray, Hid (SegM.tcp ⟨6, sp, dp, q, c, f, n, b⟩ 0 = T) := ⟨_, Lib.hid rfl⟩
  have HL : Hid (SegM.len ⟨6, sp, dp, q, c, f, n, b⟩ = (T.size : Int)) := Lib.hid (by rw [← HT.out]; rfl)
  have hT : T.size ≤ 340 := by rw [← HT.out, SegM.tcp_size]; show _ + b.size ≤ 340; omega
  have HW0 := Lib.hid fun W => (by have := impl_with_tcp sp dp q c f n b 0 W h1 h2 h3 h4 h5 h6 h7 (by decide); rwa [HT.out] at this : Calls Try.prog 132 #[.agg #[.int .i64 6, .int .i64 sp, .int .i64 dp, .int .i64 q, .int .i64 c, .int .i64 f, .int .i64 n, .string b], .int .i64 0] W fun r w' => r = .returned (.string T) ∧ Below W.heap.size W w')
  have HLy : Hid (∀ W, _) := Lib.hid fun W => layout_6 W
  obtain ⟨P, HPP, hPs⟩ : ∃ P : ByteArray, Hid (pseudoB s d 6 (T.size : Int) = P) ∧ P.size ≤ 12 := ⟨_, Lib.hid rfl, by rw [pseudo_size]; omega⟩
  have HPs := Lib.hid fun W => (by have := impl_pseudo_yes s d 6 (T.size : Int) W (by rw [← HL.out]; exact HP.out); rwa [HPP.out] at this : Calls Try.prog 133 #[.int .i64 s, .int .i64 d, .int .i64 6, .int .i64 (T.size : Int)] W fun r w' => r = .returned (.tuple #[.string P, .bool true]) ∧ Below W.heap.size W w')
  obtain ⟨X, HX⟩ : ∃ X : Int, Hid (65535 - sumW (P ++ T) = X) := ⟨_, Lib.hid rfl⟩
  have hX : 0 ≤ X ∧ X ≤ 65535 := by have := sumW_bd (P ++ T); rw [← HX.out]; omega
  have HCk := Lib.hid fun W => (by have := impl_checksum_any (P ++ T) W (by rw [ByteArray.size_append]; omega); rwa [HX.out] at this : Calls Try.prog 134 #[.string (P ++ T)] W fun r w' => r = .returned (.int .i64 X) ∧ Below W.heap.size W w')
  have HRaw : Hid (SegM.raw ⟨6, sp, dp, q, c, f, n, b⟩ s d = X) := Lib.hid (by unfold SegM.raw; rw [HL.out, ← HX.out, ← HPP.out]; show 65535 - sumW (_ ++ SegM.tcp _ 0) = _; rw [HT.out])
  have k2 : ¬ 9223372036854775807 < P.size + T.size := by omega
  rcases (show X = 0 ∨ X ≠ 0 by omega) with hx | hx
  case' inl =>
    obtain ⟨V, HVV, hV⟩ : ∃ V : Int, Hid (V = 0 ∧ SegM.check ⟨6, sp, dp, q, c, f, n, b⟩ s d = V) ∧ 0 ≤ V ∧ V ≤ 65535 := ⟨0, Lib.hid ⟨rfl, by unfold SegM.check; rw [HRaw.out, hx]; rfl⟩, by decide⟩
    subst hx
  case' inr =>
    have e0 : (X == 0) = false := by rw [beq_eq_false_iff_ne]; exact hx
    obtain ⟨V, HVV, hV⟩ : ∃ V : Int, Hid (V = X ∧ SegM.check ⟨6, sp, dp, q, c, f, n, b⟩ s d = V) ∧ 0 ≤ V ∧ V ≤ 65535 := ⟨X, Lib.hid ⟨rfl, by unfold SegM.check; rw [HRaw.out, if_neg (fun h => hx h.1)]⟩, hX⟩
    have hxi := Lib.hid hx
    clear hx
  all_goals
    have HWV := Lib.hid fun W => impl_with_tcp sp dp q c f n b V W h1 h2 h3 h4 h5 h6 h7 hV
    have HRes : Hid (SegM.tcp ⟨6, sp, dp, q, c, f, n, b⟩ V = SegM.tcp ⟨6, sp, dp, q, c, f, n, b⟩ (SegM.check ⟨6, sp, dp, q, c, f, n, b⟩ s d)) := Lib.hid (by rw [HVV.out.2])
    obtain ⟨R, HR⟩ : ∃ R : ByteArray, Hid (SegM.tcp ⟨6, sp, dp, q, c, f, n, b⟩ V = R) := ⟨_, Lib.hid rfl⟩
    rw [HR.out] at HWV HRes
    rw [HVV.out.1] at HWV
    clear hV hX h1 h2 h3 h4 h5 h6
    go_enter Try.func118, Try.ntmps118
    go_wp2_with (first
      | (go_at_call 96; refine (HV.out _).mono ?_; rintro e w1 ⟨rfl, hb⟩; obtain ⟨hc, hf, _⟩ := bcell hb; have hg : w.heap.size < w1.heap.size := by (have hz := hb.size; (try simp at hz); omega))
      | (go_at_call 132; ((with_reducible refine (HW0.out _).mono ?_); rintro e w1 ⟨rfl, hb⟩; have HW0 := HWV; obtain ⟨hc, hf, _⟩ := bcell hb; have hg : w.heap.size < w1.heap.size := by (have hz := hb.size; (try simp at hz); omega)))
      | (go_at_call 133; refine (HPs.out _).mono ?_; rintro e w1 ⟨rfl, hb⟩; obtain ⟨hc, hf, _⟩ := bcell hb; have hg : w.heap.size < w1.heap.size := by (have hz := hb.size; (try simp at hz); omega))
      | (go_at_call 134; refine (HCk.out _).mono ?_; rintro e w1 ⟨rfl, hb⟩; obtain ⟨hc, hf, _⟩ := bcell hb; have hg : w.heap.size < w1.heap.size := by (have hz := hb.size; (try simp at hz); omega))
      | (go_at_call 112; refine (HLy.out _).mono ?_; rintro e w1 ⟨rfl, rfl⟩))
    go_ret2
    refine ⟨ret_str_bool HRes.out rfl, ?_⟩
    repeat (first | exact Below.refl _ _ | exact below_new _ | (refine below_comp ?_ (by assumption)))

set_option maxHeartbeats 4000000 in
set_option maxRecDepth 100000 in
theorem impl_seg_tcp_no (s d sp dp q c f n : Int) (b : ByteArray) (w : World) (hok : SegM.Ok ⟨6, sp, dp, q, c, f, n, b⟩) (hp : ¬ pseudoOk s d 6 (SegM.len ⟨6, sp, dp, q, c, f, n, b⟩)) :
    Calls Try.prog 118 #[.int .i64 s, .int .i64 d, .agg #[.int .i64 6, .int .i64 sp, .int .i64 dp, .int .i64 q, .int .i64 c, .int .i64 f, .int .i64 n, .string b]] w fun r w' => r = .returned (.tuple #[.string ⟨#[]⟩, .bool false]) ∧ Below w.heap.size w w' := by
  have HV : Hid (∀ w1, Calls Try.prog 96 #[.agg #[.int .i64 6, .int .i64 sp, .int .i64 dp, .int .i64 q, .int .i64 c, .int .i64 f, .int .i64 n, .string b]] w1 fun r w' => r = .returned (.bool true) ∧ Below w1.heap.size w1 w') := Lib.hid fun w1 => by have := impl_segmentok ⟨6, sp, dp, q, c, f, n, b⟩ w1; rwa [decide_eq_true hok] at this
  obtain ⟨h1, h2, h7, hk⟩ := hok
  dsimp only at h1 h2 h7 hk
  have HP := Lib.hid hp
  clear hp
  obtain ⟨h3, h4, h5, h6⟩ : (0 ≤ q ∧ q ≤ 4294967295) ∧ (0 ≤ c ∧ c ≤ 4294967295) ∧ (0 ≤ f ∧ f ≤ 31) ∧ (0 ≤ n ∧ n ≤ 65535) := by omega
  clear hk
  obtain ⟨T, HT⟩ : ∃ T : ByteArray, Hid (SegM.tcp ⟨6, sp, dp, q, c, f, n, b⟩ 0 = T) := ⟨_, Lib.hid rfl⟩
  have HL : Hid (SegM.len ⟨6, sp, dp, q, c, f, n, b⟩ = (T.size : Int)) := Lib.hid (by rw [← HT.out]; rfl)
  have hT : T.size ≤ 340 := by rw [← HT.out, SegM.tcp_size]; show _ + b.size ≤ 340; omega
  have HW0 := Lib.hid fun W => (by have := impl_with_tcp sp dp q c f n b 0 W h1 h2 h3 h4 h5 h6 h7 (by decide); rwa [HT.out] at this : Calls Try.prog 132 #[.agg #[.int .i64 6, .int .i64 sp, .int .i64 dp, .int .i64 q, .int .i64 c, .int .i64 f, .int .i64 n, .string b], .int .i64 0] W fun r w' => r = .returned (.string T) ∧ Below W.heap.size W w')
  have HLy : Hid (∀ W, _) := Lib.hid fun W => layout_6 W
  obtain ⟨P, HPP, hPs⟩ : ∃ P : ByteArray, Hid (pseudoB s d 6 (T.size : Int) = P) ∧ P.size ≤ 12 := ⟨_, Lib.hid rfl, by rw [pseudo_size]; omega⟩
  have HPs := Lib.hid fun W => impl_pseudo_no s d 6 (T.size : Int) W (by rw [← HL.out]; exact HP.out)
  clear h1 h2 h3 h4 h5 h6
  go_enter Try.func118, Try.ntmps118
  go_wp2_with (first
    | (go_at_call 96; refine (HV.out _).mono ?_; rintro e w1 ⟨rfl, hb⟩; obtain ⟨hc, hf, _⟩ := bcell hb; have hg : w.heap.size < w1.heap.size := by (have hz := hb.size; (try simp at hz); omega))
    | (go_at_call 132; refine (HW0.out _).mono ?_; rintro e w1 ⟨rfl, hb⟩; obtain ⟨hc, hf, _⟩ := bcell hb; have hg : w.heap.size < w1.heap.size := by (have hz := hb.size; (try simp at hz); omega))
    | (go_at_call 133; refine (HPs.out _).mono ?_; rintro e w1 ⟨rfl, hb⟩; obtain ⟨hc, hf, _⟩ := bcell hb; have hg : w.heap.size < w1.heap.size := by (have hz := hb.size; (try simp at hz); omega)))
  go_ret2
  refine ⟨rfl, ?_⟩
  repeat (first | exact Below.refl _ _ | exact below_new _ | (refine below_comp ?_ (by assumption)))

end Go.Proofs.Ytbidaccdjnbhfaa

/- BuildSegment of both sides, at every argument. -/
namespace Go.Proofs.Ytbidaccdjnbhfaa
open Go.RowKit
set_option linter.unusedSimpArgs false
set_option linter.unusedVariables false

set_option maxHeartbeats 4000000 in
theorem spec_seg_bad (g : SegM) (x y : Int) (w : World) (h : ¬ g.Ok) :
    Calls Try.prog 113 #[.int .i64 x, .int .i64 y, g.val] w fun r w' => r = .returned (.tuple #[.string ⟨#[]⟩, .bool false]) ∧ Below w.heap.size w w' := by
  have HV : Hid (∀ w1, Calls Try.prog 97 #[g.val] w1 fun r w' => r = .returned (.bool false) ∧ Below w1.heap.size w1 w') := Lib.hid fun w1 => by have := spec_segmentok g w1; rwa [decide_eq_false h] at this
  clear h
  obtain ⟨k, sp, dp, q, c, f, n, b⟩ := g
  unfold SegM.val at *
  dsimp only at *
  go_enter Try.func113, Try.ntmps113
  go_wp2_with (go_at_call 97; refine (HV.out _).mono ?_; rintro e w1 ⟨rfl, hb1⟩)
  go_ret2
  exact ⟨rfl, below_comp (below_new _) hb1⟩
theorem spec_buildseg (g : SegM) (x y : Int) (w : World) :
    Calls Try.prog 113 #[.int .i64 x, .int .i64 y, g.val] w fun r w' => r = .returned (.tuple #[.string (g.built x y), .bool (decide (g.OkB x y))]) ∧ Below w.heap.size w w' := by
  by_cases h : g.Ok
  · have hk : g.kind = 17 ∨ g.kind = 6 := by have := h.2.2.2; omega
    obtain ⟨k, sp, dp, q, c, f, n, b⟩ := g
    dsimp only at hk
    by_cases hp : pseudoOk x y k (SegM.len ⟨k, sp, dp, q, c, f, n, b⟩)
    · have hb : SegM.OkB ⟨k, sp, dp, q, c, f, n, b⟩ x y := ⟨h, hp⟩
      rw [decide_eq_true hb, show SegM.built ⟨k, sp, dp, q, c, f, n, b⟩ x y = _ from if_pos hb]
      rcases hk with rfl | rfl
      · exact spec_seg_udp_yes x y sp dp q c f n b w h hp
      · exact spec_seg_tcp_yes x y sp dp q c f n b w h hp
    · have hb : ¬ SegM.OkB ⟨k, sp, dp, q, c, f, n, b⟩ x y := fun hb => hp hb.2
      rw [decide_eq_false hb, show SegM.built ⟨k, sp, dp, q, c, f, n, b⟩ x y = _ from if_neg hb]
      rcases hk with rfl | rfl
      · exact spec_seg_udp_no x y sp dp q c f n b w h hp
      · exact spec_seg_tcp_no x y sp dp q c f n b w h hp
  · have hb : ¬ g.OkB x y := fun hb => h hb.1
    rw [decide_eq_false hb, show g.built x y = _ from if_neg hb]
    exact spec_seg_bad g x y w h

set_option maxHeartbeats 4000000 in
theorem impl_seg_bad (g : SegM) (x y : Int) (w : World) (h : ¬ g.Ok) :
    Calls Try.prog 118 #[.int .i64 x, .int .i64 y, g.val] w fun r w' => r = .returned (.tuple #[.string ⟨#[]⟩, .bool false]) ∧ Below w.heap.size w w' := by
  have HV : Hid (∀ w1, Calls Try.prog 96 #[g.val] w1 fun r w' => r = .returned (.bool false) ∧ Below w1.heap.size w1 w') := Lib.hid fun w1 => by have := impl_segmentok g w1; rwa [decide_eq_false h] at this
  clear h
  obtain ⟨k, sp, dp, q, c, f, n, b⟩ := g
  unfold SegM.val at *
  dsimp only at *
  go_enter Try.func118, Try.ntmps118
  go_wp2_with (go_at_call 96; refine (HV.out _).mono ?_; rintro e w1 ⟨rfl, hb1⟩)
  go_ret2
  exact ⟨rfl, below_comp (below_new _) hb1⟩
theorem impl_buildseg (g : SegM) (x y : Int) (w : World) :
    Calls Try.prog 118 #[.int .i64 x, .int .i64 y, g.val] w fun r w' => r = .returned (.tuple #[.string (g.built x y), .bool (decide (g.OkB x y))]) ∧ Below w.heap.size w w' := by
  by_cases h : g.Ok
  · have hk : g.kind = 17 ∨ g.kind = 6 := by have := h.2.2.2; omega
    obtain ⟨k, sp, dp, q, c, f, n, b⟩ := g
    dsimp only at hk
    by_cases hp : pseudoOk x y k (SegM.len ⟨k, sp, dp, q, c, f, n, b⟩)
    · have hb : SegM.OkB ⟨k, sp, dp, q, c, f, n, b⟩ x y := ⟨h, hp⟩
      rw [decide_eq_true hb, show SegM.built ⟨k, sp, dp, q, c, f, n, b⟩ x y = _ from if_pos hb]
      rcases hk with rfl | rfl
      · exact impl_seg_udp_yes x y sp dp q c f n b w h hp
      · exact impl_seg_tcp_yes x y sp dp q c f n b w h hp
    · have hb : ¬ SegM.OkB ⟨k, sp, dp, q, c, f, n, b⟩ x y := fun hb => hp hb.2
      rw [decide_eq_false hb, show SegM.built ⟨k, sp, dp, q, c, f, n, b⟩ x y = _ from if_neg hb]
      rcases hk with rfl | rfl
      · exact impl_seg_udp_no x y sp dp q c f n b w h hp
      · exact impl_seg_tcp_no x y sp dp q c f n b w h hp
  · have hb : ¬ g.OkB x y := fun hb => h hb.1
    rw [decide_eq_false hb, show g.built x y = _ from if_neg hb]
    exact impl_seg_bad g x y w h

end Go.Proofs.Ytbidaccdjnbhfaa

/- IpOk of both sides. -/
namespace Go.Proofs.Ytbidaccdjnbhfaa
open Go.RowKit
set_option linter.unusedSimpArgs false
set_option linter.unusedVariables false
set_option maxHeartbeats 4000000 in
set_option maxRecDepth 100000 in
theorem spec_ipok (e : IpM) (w : World) :
    Calls Try.prog 142 #[e.val] w fun r w' => r = .returned (.bool (decide e.Ok)) ∧ Below w.heap.size w w' := by
  obtain ⟨o, n, t, p, x, y, b⟩ := e
  unfold IpM.val
  dsimp only
  obtain ⟨B, HB⟩ : ∃ B : Bool, Hid (B = decide (IpM.Ok ⟨o, n, t, p, x, y, b⟩) ∧ (B = true ↔ IpM.Ok ⟨o, n, t, p, x, y, b⟩)) := ⟨_, Lib.hid ⟨rfl, decide_eq_true_iff⟩⟩
  rw [← HB.out.1]
  go_enter Try.func142, Try.ntmps142
  go_wp2_with (first | (go_at_call 71; refine (spec_in _ _ _ _).mono ?_; rintro e w' ⟨rfl, rfl⟩))
  all_goals
    go_ret
    refine ⟨ret_bool ?_, below_new _⟩
    rw [Bool.eq_iff_iff, HB.out.2]
    unfold IpM.Ok
    dsimp only
    simp only [Bool.and_eq_true, Bool.or_eq_true, decide_eq_true_eq, bne_iff_ne, beq_iff_eq, Bool.false_eq_true, ne_eq, false_iff, true_iff, true_and, and_true]
    omega
set_option maxHeartbeats 4000000 in
set_option maxRecDepth 100000 in
theorem impl_ipok (e : IpM) (w : World) :
    Calls Try.prog 145 #[e.val] w fun r w' => r = .returned (.bool (decide e.Ok)) ∧ Below w.heap.size w w' := by
  obtain ⟨o, n, t, p, x, y, b⟩ := e
  unfold IpM.val
  dsimp only
  obtain ⟨B, HB⟩ : ∃ B : Bool, Hid (B = decide (IpM.Ok ⟨o, n, t, p, x, y, b⟩) ∧ (B = true ↔ IpM.Ok ⟨o, n, t, p, x, y, b⟩)) := ⟨_, Lib.hid ⟨rfl, decide_eq_true_iff⟩⟩
  rw [← HB.out.1]
  go_enter Try.func145, Try.ntmps145
  go_wp2_with (first | (go_at_call 69; refine (impl_in _ _ _ _).mono ?_; rintro e w' ⟨rfl, rfl⟩))
  all_goals
    go_ret
    refine ⟨ret_bool ?_, below_new _⟩
    rw [Bool.eq_iff_iff, HB.out.2]
    unfold IpM.Ok
    dsimp only
    simp only [Bool.and_eq_true, Bool.or_eq_true, decide_eq_true_eq, bne_iff_ne, beq_iff_eq, Bool.false_eq_true, ne_eq, false_iff, true_iff, true_and, and_true]
    omega
end Go.Proofs.Ytbidaccdjnbhfaa

/- IpHeader of both sides, at a datagram that can be sent. -/
namespace Go.Proofs.Ytbidaccdjnbhfaa
open Go.RowKit
set_option linter.unusedSimpArgs false
set_option linter.unusedVariables false

set_option maxHeartbeats 4000000 in
set_option maxRecDepth 100000 in
theorem spec_header_yes (e : IpM) (w : World) (h : e.Ok) :
    Calls Try.prog 128 #[e.val] w fun r w' => r = .returned (.tuple #[.string e.header, .bool true]) ∧ Below w.heap.size w w' := by
  have HV : Hid (∀ w1, Calls Try.prog 142 #[e.val] w1 fun r w' => r = .returned (.bool true) ∧ Below w1.heap.size w1 w') := Lib.hid fun w1 => by have := spec_ipok e w1; rwa [decide_eq_true h] at this
  have HB20 := Lib.hid (IpM.blank_size e)
  obtain ⟨R, HR⟩ : ∃ R, Hid (R = e.header) := ⟨_, Lib.hid rfl⟩
  rw [← HR.out]
  obtain ⟨o, n, t, p, x, y, b⟩ := e
  unfold IpM.val at *
  dsimp only at *
  obtain ⟨h1, h2, h3, h4, h5, h6, h7⟩ := h
  dsimp only at h1 h2 h3 h4 h5 h6 h7
  have HWl := Lib.hid fun W => (by have := spec_word16 (20 + (b.size : Int)) W; rwa [word16_in _ (by omega)] at this : Calls Try.prog 83 #[.int .i64 (20 + (b.size : Int))] W fun r w' => r = .returned (.string (w16 (20 + (b.size : Int)))) ∧ Below W.heap.size W w')
  have HWn := Lib.hid fun W => (by have := spec_word16 n W; rwa [word16_in _ h4] at this : Calls Try.prog 83 #[.int .i64 n] W fun r w' => r = .returned (.string (w16 n)) ∧ Below W.heap.size W w')
  have HWd := Lib.hid fun W => (by have := spec_word16 16384 W; rwa [word16_in _ (by decide)] at this : Calls Try.prog 83 #[.int .i64 16384] W fun r w' => r = .returned (.string (w16 16384)) ∧ Below W.heap.size W w')
  have HW0 := Lib.hid fun W => (by have := spec_word16 0 W; rwa [word16_in _ (by decide)] at this : Calls Try.prog 83 #[.int .i64 0] W fun r w' => r = .returned (.string (w16 0)) ∧ Below W.heap.size W w')
  have HW_x := Lib.hid fun W => (by have := spec_word32 x W; rwa [word32_in _ h5] at this : Calls Try.prog 124 #[.int .i64 x] W fun r w' => r = .returned (.string (w32 x)) ∧ Below W.heap.size W w')
  have HW_y := Lib.hid fun W => (by have := spec_word32 y W; rwa [word32_in _ h6] at this : Calls Try.prog 124 #[.int .i64 y] W fun r w' => r = .returned (.string (w32 y)) ∧ Below W.heap.size W w')
  have HC1 := Lib.hid fun g W => conv_two_at 5 69 (o % 256) (by decide) (by omega) g W
  have HC2 := Lib.hid fun g W => conv_two_at 5 (t % 256) (p % 256) (by omega) (by omega) g W
  have z1 : (w16 (20 + (b.size : Int))).size ≤ 2 := Nat.le_refl _
  have z2 : (w16 n).size ≤ 2 := Nat.le_refl _
  have z3 : (w16 16384).size ≤ 2 := Nat.le_refl _
  have z4 : (w16 0).size ≤ 2 := Nat.le_refl _
  have z5 : (w32 x).size ≤ 4 := Nat.le_refl _
  have z6 : (w32 y).size ≤ 4 := Nat.le_refl _
  have z7 : (two 69 (o % 256)).size ≤ 2 := Nat.le_refl _
  have z8 : (two (t % 256) (p % 256)).size ≤ 2 := Nat.le_refl _
  clear h1 h2 h3 h4 h5 h6

  go_enter Try.func128, Try.ntmps128
  go_wp2_with (go_at_call 142; refine (HV.out _).mono ?_; rintro e w1 ⟨rfl, hb1⟩)
  have hg1 : w.heap.size < w1.heap.size := by have := hb1.size; simp at this; omega
  have HB1 := Lib.hid ((Box.new w #[.int .i64 o, .int .i64 n, .int .i64 t, .int .i64 p, .int .i64 x, .int .i64 y, .string b] 125).below hb1 (by simp))
  have hb01 := below_comp (below_new _) hb1
  clear hb1
  refine wp_region_values (by kernel_rfl) (fun W => Below w1.heap.size w1 W) (Vals [.pointer (some ⟨w.heap.size, 0, none⟩), .int .i64 o, .int .u8 (o % 256), undef, .string (two 69 (o % 256)), .pointer (some ⟨w.heap.size, 6, none⟩), .string b, .int .i64 (b.size : Int), .int .i64 (20 + (b.size : Int)), .string (w16 (20 + (b.size : Int))), .string ((two 69 (o % 256)) ++ (w16 (20 + (b.size : Int)))), .pointer (some ⟨w.heap.size, 1, none⟩), .int .i64 n, .string (w16 n), .string (((two 69 (o % 256)) ++ (w16 (20 + (b.size : Int)))) ++ (w16 n)), .string (w16 16384), .string ((((two 69 (o % 256)) ++ (w16 (20 + (b.size : Int)))) ++ (w16 n)) ++ (w16 16384)), .pointer (some ⟨w.heap.size, 2, none⟩), .int .i64 t, .int .u8 (t % 256), .pointer (some ⟨w.heap.size, 3, none⟩), .int .i64 p, .int .u8 (p % 256), undef, .string (two (t % 256) (p % 256)), .string (((((two 69 (o % 256)) ++ (w16 (20 + (b.size : Int)))) ++ (w16 n)) ++ (w16 16384)) ++ (two (t % 256) (p % 256))), .string (w16 0), .string ((((((two 69 (o % 256)) ++ (w16 (20 + (b.size : Int)))) ++ (w16 n)) ++ (w16 16384)) ++ (two (t % 256) (p % 256))) ++ (w16 0)), .pointer (some ⟨w.heap.size, 4, none⟩), .int .i64 x, .string (w32 x), .string (((((((two 69 (o % 256)) ++ (w16 (20 + (b.size : Int)))) ++ (w16 n)) ++ (w16 16384)) ++ (two (t % 256) (p % 256))) ++ (w16 0)) ++ (w32 x)), .pointer (some ⟨w.heap.size, 5, none⟩), .int .i64 y, .string (w32 y), .string ((((((((two 69 (o % 256)) ++ (w16 (20 + (b.size : Int)))) ++ (w16 n)) ++ (w16 16384)) ++ (two (t % 256) (p % 256))) ++ (w16 0)) ++ (w32 x)) ++ (w32 y)), .string ((((((((two 69 (o % 256)) ++ (w16 (20 + (b.size : Int)))) ++ (w16 n)) ++ (w16 16384)) ++ (two (t % 256) (p % 256))) ++ (w16 0)) ++ (w32 x)) ++ (w32 y))] [(3, #[.int .u8 69, .int .u8 (o % 256)], 5, 2), (23, #[.int .u8 (t % 256), .int .u8 (p % 256)], 5, 2)])
    49 rfl (by kernel_rfl) (by kernel_rfl) below_drew (eachOp_all ?_) ?_
  · refine ⟨?_, ?_, ?_, ?_, ?_, ?_, ?_, ?_, ?_, ?_, ?_, ?_, ?_, ?_, ?_, ?_, ?_, ?_, ?_, ?_, ?_, ?_, ?_, ?_, ?_, ?_, ?_, ?_, ?_, ?_, ?_, ?_, ?_, ?_, ?_, ?_, ?_, trivial⟩
    · intro a W hd hS hdep hfree
      have x1 : a.tmps.getD 1 undef = .pointer (some ⟨w.heap.size, 0, none⟩) := hfree 1 rfl
      clear hd hdep hfree
      simp only [Oper.wp, execOp]
      go_simp
      refine Nxt.mk _ rfl (fun _ _ => ?_) hS (fun _ _ h => h)
      rfl
    · intro a W hd hS hdep hfree
      have x8 : a.tmps.getD 8 undef = .pointer (some ⟨w.heap.size, 0, none⟩) := hdep 0 8 rfl rfl
      clear hd hdep hfree
      have c : W.cell? ⟨w.heap.size, 0, none⟩ = some (.int .i64 o) := (HB1.out.below hS hg1).cell 0 (by simp)
      simp only [Oper.wp, execOp]
      go_simp
      refine Nxt.mk _ rfl (fun _ _ => ?_) hS (fun _ _ h => h)
      rfl
    · intro a W hd hS hdep hfree
      have x9 : a.tmps.getD 9 undef = .int .i64 o := hdep 1 9 rfl rfl
      clear hd hdep hfree
      simp only [Oper.wp, execOp]
      go_simp
      refine Nxt.mk _ rfl (fun _ _ => ?_) hS (fun _ _ h => h)
      rfl
    · intro a W hd hS hdep hfree
      have x10 : a.tmps.getD 10 undef = .int .u8 (o % 256) := hdep 2 10 rfl rfl
      have y10 : a.tmps[10]?.getD undef = .int .u8 (o % 256) := by rw [← Array.getD_eq_getD_getElem?]; exact x10
      clear hd hdep hfree
      simp only [Oper.wp, execOp]
      go_simp
      exact Nxt.mk _ rfl (fun _ _ => ⟨W.heap.size, rfl, heap_alloc_new W _, by simp⟩) (below_comp hS (below_new _)) (fun j u h => Vals.below (below_new _) j u h)
    · intro a W hd hS hdep hfree
      obtain ⟨g11, x11, hx11, hl11⟩ : SliceAt W (a.tmps.getD 11 undef) #[.int .u8 69, .int .u8 (o % 256)] 5 2 := hdep 3 11 rfl rfl
      clear hd hdep hfree
      have hcv := HC1.out g11 W hx11
      simp only [Oper.wp, execOp]
      go_simp
      refine Nxt.mk _ rfl (fun _ _ => ?_) hS (fun _ _ h => h)
      rfl
    · intro a W hd hS hdep hfree
      have x1 : a.tmps.getD 1 undef = .pointer (some ⟨w.heap.size, 0, none⟩) := hfree 1 rfl
      clear hd hdep hfree
      simp only [Oper.wp, execOp]
      go_simp
      refine Nxt.mk _ rfl (fun _ _ => ?_) hS (fun _ _ h => h)
      rfl
    · intro a W hd hS hdep hfree
      have x13 : a.tmps.getD 13 undef = .pointer (some ⟨w.heap.size, 6, none⟩) := hdep 5 13 rfl rfl
      clear hd hdep hfree
      have c : W.cell? ⟨w.heap.size, 6, none⟩ = some (.string b) := (HB1.out.below hS hg1).cell 6 (by simp)
      simp only [Oper.wp, execOp]
      go_simp
      refine Nxt.mk _ rfl (fun _ _ => ?_) hS (fun _ _ h => h)
      rfl
    · intro a W hd hS hdep hfree
      have x14 : a.tmps.getD 14 undef = .string b := hdep 6 14 rfl rfl
      clear hd hdep hfree
      simp only [Oper.wp, execOp]
      go_simp
      refine Nxt.mk _ rfl (fun _ _ => ?_) hS (fun _ _ h => h)
      rfl
    · intro a W hd hS hdep hfree
      have x15 : a.tmps.getD 15 undef = .int .i64 (b.size : Int) := hdep 7 15 rfl rfl
      clear hd hdep hfree
      have k : IntKind.i64.wrap (20 + (b.size : Int)) = 20 + (b.size : Int) := wrap_in _ (by omega) (by omega)
      simp only [Oper.wp, execOp]
      go_simp
      refine Nxt.mk _ rfl (fun _ _ => ?_) hS (fun _ _ h => h)
      rfl
    · intro a W hd hS hdep hfree
      have x16 : a.tmps.getD 16 undef = .int .i64 (20 + (b.size : Int)) := hdep 8 16 rfl rfl
      clear hd hdep hfree
      simp only [Oper.wp, execOp]
      go_simp
      refine (HWl.out W).mono ?_
      rintro e W' ⟨rfl, hb⟩
      exact Nxt.mk _ rfl (fun _ _ => rfl) (below_comp hS hb) (fun j u h => Vals.below hb j u h)
    · intro a W hd hS hdep hfree
      have x12 : a.tmps.getD 12 undef = .string (two 69 (o % 256)) := hdep 4 12 rfl rfl
      have x17 : a.tmps.getD 17 undef = .string (w16 (20 + (b.size : Int))) := hdep 9 17 rfl rfl
      clear hd hdep hfree
      have k : ¬ 9223372036854775807 < (two 69 (o % 256)).size + (w16 (20 + (b.size : Int))).size := by (try simp only [ByteArray.size_append]); omega
      have k2 := k
      try simp only [ByteArray.size_append] at k2
      simp only [Oper.wp, execOp]
      go_simp
      refine Nxt.mk _ rfl (fun _ _ => ?_) hS (fun _ _ h => h)
      rfl
    · intro a W hd hS hdep hfree
      have x1 : a.tmps.getD 1 undef = .pointer (some ⟨w.heap.size, 0, none⟩) := hfree 1 rfl
      clear hd hdep hfree
      simp only [Oper.wp, execOp]
      go_simp
      refine Nxt.mk _ rfl (fun _ _ => ?_) hS (fun _ _ h => h)
      rfl
    · intro a W hd hS hdep hfree
      have x19 : a.tmps.getD 19 undef = .pointer (some ⟨w.heap.size, 1, none⟩) := hdep 11 19 rfl rfl
      clear hd hdep hfree
      have c : W.cell? ⟨w.heap.size, 1, none⟩ = some (.int .i64 n) := (HB1.out.below hS hg1).cell 1 (by simp)
      simp only [Oper.wp, execOp]
      go_simp
      refine Nxt.mk _ rfl (fun _ _ => ?_) hS (fun _ _ h => h)
      rfl
    · intro a W hd hS hdep hfree
      have x20 : a.tmps.getD 20 undef = .int .i64 n := hdep 12 20 rfl rfl
      clear hd hdep hfree
      simp only [Oper.wp, execOp]
      go_simp
      refine (HWn.out W).mono ?_
      rintro e W' ⟨rfl, hb⟩
      exact Nxt.mk _ rfl (fun _ _ => rfl) (below_comp hS hb) (fun j u h => Vals.below hb j u h)
    · intro a W hd hS hdep hfree
      have x18 : a.tmps.getD 18 undef = .string ((two 69 (o % 256)) ++ (w16 (20 + (b.size : Int)))) := hdep 10 18 rfl rfl
      have x21 : a.tmps.getD 21 undef = .string (w16 n) := hdep 13 21 rfl rfl
      clear hd hdep hfree
      have k : ¬ 9223372036854775807 < ((two 69 (o % 256)) ++ (w16 (20 + (b.size : Int)))).size + (w16 n).size := by (try simp only [ByteArray.size_append]); omega
      have k2 := k
      try simp only [ByteArray.size_append] at k2
      simp only [Oper.wp, execOp]
      go_simp
      refine Nxt.mk _ rfl (fun _ _ => ?_) hS (fun _ _ h => h)
      rfl
    · intro a W hd hS hdep hfree
      clear hd hdep hfree
      simp only [Oper.wp, execOp]
      go_simp
      refine (HWd.out W).mono ?_
      rintro e W' ⟨rfl, hb⟩
      exact Nxt.mk _ rfl (fun _ _ => rfl) (below_comp hS hb) (fun j u h => Vals.below hb j u h)
    · intro a W hd hS hdep hfree
      have x22 : a.tmps.getD 22 undef = .string (((two 69 (o % 256)) ++ (w16 (20 + (b.size : Int)))) ++ (w16 n)) := hdep 14 22 rfl rfl
      have x23 : a.tmps.getD 23 undef = .string (w16 16384) := hdep 15 23 rfl rfl
      clear hd hdep hfree
      have k : ¬ 9223372036854775807 < (((two 69 (o % 256)) ++ (w16 (20 + (b.size : Int)))) ++ (w16 n)).size + (w16 16384).size := by (try simp only [ByteArray.size_append]); omega
      have k2 := k
      try simp only [ByteArray.size_append] at k2
      simp only [Oper.wp, execOp]
      go_simp
      refine Nxt.mk _ rfl (fun _ _ => ?_) hS (fun _ _ h => h)
      rfl
    · intro a W hd hS hdep hfree
      have x1 : a.tmps.getD 1 undef = .pointer (some ⟨w.heap.size, 0, none⟩) := hfree 1 rfl
      clear hd hdep hfree
      simp only [Oper.wp, execOp]
      go_simp
      refine Nxt.mk _ rfl (fun _ _ => ?_) hS (fun _ _ h => h)
      rfl
    · intro a W hd hS hdep hfree
      have x25 : a.tmps.getD 25 undef = .pointer (some ⟨w.heap.size, 2, none⟩) := hdep 17 25 rfl rfl
      clear hd hdep hfree
      have c : W.cell? ⟨w.heap.size, 2, none⟩ = some (.int .i64 t) := (HB1.out.below hS hg1).cell 2 (by simp)
      simp only [Oper.wp, execOp]
      go_simp
      refine Nxt.mk _ rfl (fun _ _ => ?_) hS (fun _ _ h => h)
      rfl
    · intro a W hd hS hdep hfree
      have x26 : a.tmps.getD 26 undef = .int .i64 t := hdep 18 26 rfl rfl
      clear hd hdep hfree
      simp only [Oper.wp, execOp]
      go_simp
      refine Nxt.mk _ rfl (fun _ _ => ?_) hS (fun _ _ h => h)
      rfl
    · intro a W hd hS hdep hfree
      have x1 : a.tmps.getD 1 undef = .pointer (some ⟨w.heap.size, 0, none⟩) := hfree 1 rfl
      clear hd hdep hfree
      simp only [Oper.wp, execOp]
      go_simp
      refine Nxt.mk _ rfl (fun _ _ => ?_) hS (fun _ _ h => h)
      rfl
    · intro a W hd hS hdep hfree
      have x28 : a.tmps.getD 28 undef = .pointer (some ⟨w.heap.size, 3, none⟩) := hdep 20 28 rfl rfl
      clear hd hdep hfree
      have c : W.cell? ⟨w.heap.size, 3, none⟩ = some (.int .i64 p) := (HB1.out.below hS hg1).cell 3 (by simp)
      simp only [Oper.wp, execOp]
      go_simp
      refine Nxt.mk _ rfl (fun _ _ => ?_) hS (fun _ _ h => h)
      rfl
    · intro a W hd hS hdep hfree
      have x29 : a.tmps.getD 29 undef = .int .i64 p := hdep 21 29 rfl rfl
      clear hd hdep hfree
      simp only [Oper.wp, execOp]
      go_simp
      refine Nxt.mk _ rfl (fun _ _ => ?_) hS (fun _ _ h => h)
      rfl
    · intro a W hd hS hdep hfree
      have x27 : a.tmps.getD 27 undef = .int .u8 (t % 256) := hdep 19 27 rfl rfl
      have x30 : a.tmps.getD 30 undef = .int .u8 (p % 256) := hdep 22 30 rfl rfl
      have y27 : a.tmps[27]?.getD undef = .int .u8 (t % 256) := by rw [← Array.getD_eq_getD_getElem?]; exact x27
      have y30 : a.tmps[30]?.getD undef = .int .u8 (p % 256) := by rw [← Array.getD_eq_getD_getElem?]; exact x30
      clear hd hdep hfree
      simp only [Oper.wp, execOp]
      go_simp
      exact Nxt.mk _ rfl (fun _ _ => ⟨W.heap.size, rfl, heap_alloc_new W _, by simp⟩) (below_comp hS (below_new _)) (fun j u h => Vals.below (below_new _) j u h)
    · intro a W hd hS hdep hfree
      obtain ⟨g31, x31, hx31, hl31⟩ : SliceAt W (a.tmps.getD 31 undef) #[.int .u8 (t % 256), .int .u8 (p % 256)] 5 2 := hdep 23 31 rfl rfl
      clear hd hdep hfree
      have hcv := HC2.out g31 W hx31
      simp only [Oper.wp, execOp]
      go_simp
      refine Nxt.mk _ rfl (fun _ _ => ?_) hS (fun _ _ h => h)
      rfl
    · intro a W hd hS hdep hfree
      have x24 : a.tmps.getD 24 undef = .string ((((two 69 (o % 256)) ++ (w16 (20 + (b.size : Int)))) ++ (w16 n)) ++ (w16 16384)) := hdep 16 24 rfl rfl
      have x32 : a.tmps.getD 32 undef = .string (two (t % 256) (p % 256)) := hdep 24 32 rfl rfl
      clear hd hdep hfree
      have k : ¬ 9223372036854775807 < ((((two 69 (o % 256)) ++ (w16 (20 + (b.size : Int)))) ++ (w16 n)) ++ (w16 16384)).size + (two (t % 256) (p % 256)).size := by (try simp only [ByteArray.size_append]); omega
      have k2 := k
      try simp only [ByteArray.size_append] at k2
      simp only [Oper.wp, execOp]
      go_simp
      refine Nxt.mk _ rfl (fun _ _ => ?_) hS (fun _ _ h => h)
      rfl
    · intro a W hd hS hdep hfree
      clear hd hdep hfree
      simp only [Oper.wp, execOp]
      go_simp
      refine (HW0.out W).mono ?_
      rintro e W' ⟨rfl, hb⟩
      exact Nxt.mk _ rfl (fun _ _ => rfl) (below_comp hS hb) (fun j u h => Vals.below hb j u h)
    · intro a W hd hS hdep hfree
      have x33 : a.tmps.getD 33 undef = .string (((((two 69 (o % 256)) ++ (w16 (20 + (b.size : Int)))) ++ (w16 n)) ++ (w16 16384)) ++ (two (t % 256) (p % 256))) := hdep 25 33 rfl rfl
      have x34 : a.tmps.getD 34 undef = .string (w16 0) := hdep 26 34 rfl rfl
      clear hd hdep hfree
      have k : ¬ 9223372036854775807 < (((((two 69 (o % 256)) ++ (w16 (20 + (b.size : Int)))) ++ (w16 n)) ++ (w16 16384)) ++ (two (t % 256) (p % 256))).size + (w16 0).size := by (try simp only [ByteArray.size_append]); omega
      have k2 := k
      try simp only [ByteArray.size_append] at k2
      simp only [Oper.wp, execOp]
      go_simp
      refine Nxt.mk _ rfl (fun _ _ => ?_) hS (fun _ _ h => h)
      rfl
    · intro a W hd hS hdep hfree
      have x1 : a.tmps.getD 1 undef = .pointer (some ⟨w.heap.size, 0, none⟩) := hfree 1 rfl
      clear hd hdep hfree
      simp only [Oper.wp, execOp]
      go_simp
      refine Nxt.mk _ rfl (fun _ _ => ?_) hS (fun _ _ h => h)
      rfl
    · intro a W hd hS hdep hfree
      have x36 : a.tmps.getD 36 undef = .pointer (some ⟨w.heap.size, 4, none⟩) := hdep 28 36 rfl rfl
      clear hd hdep hfree
      have c : W.cell? ⟨w.heap.size, 4, none⟩ = some (.int .i64 x) := (HB1.out.below hS hg1).cell 4 (by simp)
      simp only [Oper.wp, execOp]
      go_simp
      refine Nxt.mk _ rfl (fun _ _ => ?_) hS (fun _ _ h => h)
      rfl
    · intro a W hd hS hdep hfree
      have x37 : a.tmps.getD 37 undef = .int .i64 x := hdep 29 37 rfl rfl
      clear hd hdep hfree
      simp only [Oper.wp, execOp]
      go_simp
      refine (HW_x.out W).mono ?_
      rintro e W' ⟨rfl, hb⟩
      exact Nxt.mk _ rfl (fun _ _ => rfl) (below_comp hS hb) (fun j u h => Vals.below hb j u h)
    · intro a W hd hS hdep hfree
      have x35 : a.tmps.getD 35 undef = .string ((((((two 69 (o % 256)) ++ (w16 (20 + (b.size : Int)))) ++ (w16 n)) ++ (w16 16384)) ++ (two (t % 256) (p % 256))) ++ (w16 0)) := hdep 27 35 rfl rfl
      have x38 : a.tmps.getD 38 undef = .string (w32 x) := hdep 30 38 rfl rfl
      clear hd hdep hfree
      have k : ¬ 9223372036854775807 < ((((((two 69 (o % 256)) ++ (w16 (20 + (b.size : Int)))) ++ (w16 n)) ++ (w16 16384)) ++ (two (t % 256) (p % 256))) ++ (w16 0)).size + (w32 x).size := by (try simp only [ByteArray.size_append]); omega
      have k2 := k
      try simp only [ByteArray.size_append] at k2
      simp only [Oper.wp, execOp]
      go_simp
      refine Nxt.mk _ rfl (fun _ _ => ?_) hS (fun _ _ h => h)
      rfl
    · intro a W hd hS hdep hfree
      have x1 : a.tmps.getD 1 undef = .pointer (some ⟨w.heap.size, 0, none⟩) := hfree 1 rfl
      clear hd hdep hfree
      simp only [Oper.wp, execOp]
      go_simp
      refine Nxt.mk _ rfl (fun _ _ => ?_) hS (fun _ _ h => h)
      rfl
    · intro a W hd hS hdep hfree
      have x40 : a.tmps.getD 40 undef = .pointer (some ⟨w.heap.size, 5, none⟩) := hdep 32 40 rfl rfl
      clear hd hdep hfree
      have c : W.cell? ⟨w.heap.size, 5, none⟩ = some (.int .i64 y) := (HB1.out.below hS hg1).cell 5 (by simp)
      simp only [Oper.wp, execOp]
      go_simp
      refine Nxt.mk _ rfl (fun _ _ => ?_) hS (fun _ _ h => h)
      rfl
    · intro a W hd hS hdep hfree
      have x41 : a.tmps.getD 41 undef = .int .i64 y := hdep 33 41 rfl rfl
      clear hd hdep hfree
      simp only [Oper.wp, execOp]
      go_simp
      refine (HW_y.out W).mono ?_
      rintro e W' ⟨rfl, hb⟩
      exact Nxt.mk _ rfl (fun _ _ => rfl) (below_comp hS hb) (fun j u h => Vals.below hb j u h)
    · intro a W hd hS hdep hfree
      have x39 : a.tmps.getD 39 undef = .string (((((((two 69 (o % 256)) ++ (w16 (20 + (b.size : Int)))) ++ (w16 n)) ++ (w16 16384)) ++ (two (t % 256) (p % 256))) ++ (w16 0)) ++ (w32 x)) := hdep 31 39 rfl rfl
      have x42 : a.tmps.getD 42 undef = .string (w32 y) := hdep 34 42 rfl rfl
      clear hd hdep hfree
      have k : ¬ 9223372036854775807 < (((((((two 69 (o % 256)) ++ (w16 (20 + (b.size : Int)))) ++ (w16 n)) ++ (w16 16384)) ++ (two (t % 256) (p % 256))) ++ (w16 0)) ++ (w32 x)).size + (w32 y).size := by (try simp only [ByteArray.size_append]); omega
      have k2 := k
      try simp only [ByteArray.size_append] at k2
      simp only [Oper.wp, execOp]
      go_simp
      refine Nxt.mk _ rfl (fun _ _ => ?_) hS (fun _ _ h => h)
      rfl
    · intro a W hd hS hdep hfree
      have x43 : a.tmps.getD 43 undef = .string ((((((((two 69 (o % 256)) ++ (w16 (20 + (b.size : Int)))) ++ (w16 n)) ++ (w16 16384)) ++ (two (t % 256) (p % 256))) ++ (w16 0)) ++ (w32 x)) ++ (w32 y)) := hdep 35 43 rfl rfl
      clear hd hdep hfree
      simp only [Oper.wp, execOp]
      go_simp
      refine Nxt.mk _ rfl (fun _ _ => ?_) hS (fun _ _ h => h)
      rfl
  intro a W2 hs hd hS2 hdone hrest
  obtain ⟨u11, hu11⟩ : ∃ u, a.tmps.getD 11 undef = u := ⟨_, rfl⟩
  obtain ⟨u31, hu31⟩ : ∃ u, a.tmps.getD 31 undef = u := ⟨_, rfl⟩
  have ea := written_all [.pointer (some ⟨w.heap.size, 0, none⟩), .int .i64 o, .int .u8 (o % 256), u11, .string (two 69 (o % 256)), .pointer (some ⟨w.heap.size, 6, none⟩), .string b, .int .i64 (b.size : Int), .int .i64 (20 + (b.size : Int)), .string (w16 (20 + (b.size : Int))), .string ((two 69 (o % 256)) ++ (w16 (20 + (b.size : Int)))), .pointer (some ⟨w.heap.size, 1, none⟩), .int .i64 n, .string (w16 n), .string (((two 69 (o % 256)) ++ (w16 (20 + (b.size : Int)))) ++ (w16 n)), .string (w16 16384), .string ((((two 69 (o % 256)) ++ (w16 (20 + (b.size : Int)))) ++ (w16 n)) ++ (w16 16384)), .pointer (some ⟨w.heap.size, 2, none⟩), .int .i64 t, .int .u8 (t % 256), .pointer (some ⟨w.heap.size, 3, none⟩), .int .i64 p, .int .u8 (p % 256), u31, .string (two (t % 256) (p % 256)), .string (((((two 69 (o % 256)) ++ (w16 (20 + (b.size : Int)))) ++ (w16 n)) ++ (w16 16384)) ++ (two (t % 256) (p % 256))), .string (w16 0), .string ((((((two 69 (o % 256)) ++ (w16 (20 + (b.size : Int)))) ++ (w16 n)) ++ (w16 16384)) ++ (two (t % 256) (p % 256))) ++ (w16 0)), .pointer (some ⟨w.heap.size, 4, none⟩), .int .i64 x, .string (w32 x), .string (((((((two 69 (o % 256)) ++ (w16 (20 + (b.size : Int)))) ++ (w16 n)) ++ (w16 16384)) ++ (two (t % 256) (p % 256))) ++ (w16 0)) ++ (w32 x)), .pointer (some ⟨w.heap.size, 5, none⟩), .int .i64 y, .string (w32 y), .string ((((((((two 69 (o % 256)) ++ (w16 (20 + (b.size : Int)))) ++ (w16 n)) ++ (w16 16384)) ++ (two (t % 256) (p % 256))) ++ (w16 0)) ++ (w32 x)) ++ (w32 y)), .string ((((((((two 69 (o % 256)) ++ (w16 (20 + (b.size : Int)))) ++ (w16 n)) ++ (w16 16384)) ++ (two (t % 256) (p % 256))) ++ (w16 0)) ++ (w32 x)) ++ (w32 y))] rfl hs hd hrest (fun j d hj => by
    have h := hdone j d hj
    match j, hj, h with
    | 0, _, h => exact h
    | 1, _, h => exact h
    | 2, _, h => exact h
    | 3, hj, _ => exact (Option.some.inj hj) ▸ hu11
    | 4, _, h => exact h
    | 5, _, h => exact h
    | 6, _, h => exact h
    | 7, _, h => exact h
    | 8, _, h => exact h
    | 9, _, h => exact h
    | 10, _, h => exact h
    | 11, _, h => exact h
    | 12, _, h => exact h
    | 13, _, h => exact h
    | 14, _, h => exact h
    | 15, _, h => exact h
    | 16, _, h => exact h
    | 17, _, h => exact h
    | 18, _, h => exact h
    | 19, _, h => exact h
    | 20, _, h => exact h
    | 21, _, h => exact h
    | 22, _, h => exact h
    | 23, hj, _ => exact (Option.some.inj hj) ▸ hu31
    | 24, _, h => exact h
    | 25, _, h => exact h
    | 26, _, h => exact h
    | 27, _, h => exact h
    | 28, _, h => exact h
    | 29, _, h => exact h
    | 30, _, h => exact h
    | 31, _, h => exact h
    | 32, _, h => exact h
    | 33, _, h => exact h
    | 34, _, h => exact h
    | 35, _, h => exact h
    | 36, _, h => exact h
    | n + 37, hj, _ => exact absurd (dstOf_lt hj) (by simp))
  clear hu11 hu31
  clear hs hd hdone hrest
  subst ea
  simp only [written, List.map_cons, List.map_nil, List.zip_cons_cons, List.zip_nil_right, putAll]
  simp only [Exit.then, Act.put, List.setIfInBounds_toArray, List.set_cons_zero, List.set_cons_succ]
  obtain ⟨H, HH⟩ : ∃ H, Hid (H = IpM.blank ⟨o, n, t, p, x, y, b⟩) := ⟨_, Lib.hid rfl⟩
  rw [show ((((((((two 69 (o % 256)) ++ (w16 (20 + (b.size : Int)))) ++ (w16 n)) ++ (w16 16384)) ++ (two (t % 256) (p % 256))) ++ (w16 0)) ++ (w32 x)) ++ (w32 y)) = H from HH.out.symm]
  have hHs : H.size ≤ 4194304 := by rw [HH.out, HB20.out]; decide
  obtain ⟨s0, s1⟩ := sumW_bd H
  have HC := Lib.hid fun W => spec_checksum_any H W hHs
  have HW := Lib.hid fun W => (by have := spec_word16 (65535 - sumW H) W; rwa [word16_in _ (by omega)] at this : Calls Try.prog 83 #[.int .i64 (65535 - sumW H)] W fun r w' => r = .returned (.string (w16 (65535 - sumW H))) ∧ Below W.heap.size W w')
  have HP := Lib.hid fun W => spec_put_any H 10 (w16 (65535 - sumW H)) W hHs (by show 2 ≤ 4194304; decide) (by decide)
  go_wp2_with (first
    | (go_at_call 126; refine (HC.out _).mono ?_; rintro e w3 ⟨rfl, hb3⟩)
    | (go_at_call 83; refine (HW.out _).mono ?_; rintro e w4 ⟨rfl, hb4⟩)
    | (go_at_call 127; refine (HP.out _).mono ?_; rintro e w5 ⟨rfl, hb5⟩))
  go_ret2
  refine ⟨ret_str_bool ?_ rfl, below_comp (below_comp (below_comp (below_comp hb01 hS2) hb3) hb4) hb5⟩
  rw [HR.out, HH.out]
  rfl

set_option maxHeartbeats 4000000 in
set_option maxRecDepth 100000 in
theorem impl_header_yes (e : IpM) (w : World) (h : e.Ok) :
    Calls Try.prog 135 #[e.val] w fun r w' => r = .returned (.tuple #[.string e.header, .bool true]) ∧ Below w.heap.size w w' := by
  have HV : Hid (∀ w1, Calls Try.prog 145 #[e.val] w1 fun r w' => r = .returned (.bool true) ∧ Below w1.heap.size w1 w') := Lib.hid fun w1 => by have := impl_ipok e w1; rwa [decide_eq_true h] at this
  have HB20 := Lib.hid (IpM.blank_size e)
  obtain ⟨R, HR⟩ : ∃ R, Hid (R = e.header) := ⟨_, Lib.hid rfl⟩
  rw [← HR.out]
  obtain ⟨o, n, t, p, x, y, b⟩ := e
  unfold IpM.val at *
  dsimp only at *
  obtain ⟨h1, h2, h3, h4, h5, h6, h7⟩ := h
  dsimp only at h1 h2 h3 h4 h5 h6 h7
  have HWl := Lib.hid fun W => (by have := impl_word16 (20 + (b.size : Int)) W; rwa [word16_in _ (by omega)] at this : Calls Try.prog 123 #[.int .i64 (20 + (b.size : Int))] W fun r w' => r = .returned (.string (w16 (20 + (b.size : Int)))) ∧ Below W.heap.size W w')
  have HWn := Lib.hid fun W => (by have := impl_word16 n W; rwa [word16_in _ h4] at this : Calls Try.prog 123 #[.int .i64 n] W fun r w' => r = .returned (.string (w16 n)) ∧ Below W.heap.size W w')
  have HWd := Lib.hid fun W => (by have := impl_word16 16384 W; rwa [word16_in _ (by decide)] at this : Calls Try.prog 123 #[.int .i64 16384] W fun r w' => r = .returned (.string (w16 16384)) ∧ Below W.heap.size W w')
  have HW0 := Lib.hid fun W => (by have := impl_word16 0 W; rwa [word16_in _ (by decide)] at this : Calls Try.prog 123 #[.int .i64 0] W fun r w' => r = .returned (.string (w16 0)) ∧ Below W.heap.size W w')
  have HW_x := Lib.hid fun W => (by have := impl_word32 x W; rwa [word32_in _ h5] at this : Calls Try.prog 143 #[.int .i64 x] W fun r w' => r = .returned (.string (w32 x)) ∧ Below W.heap.size W w')
  have HW_y := Lib.hid fun W => (by have := impl_word32 y W; rwa [word32_in _ h6] at this : Calls Try.prog 143 #[.int .i64 y] W fun r w' => r = .returned (.string (w32 y)) ∧ Below W.heap.size W w')
  have HC1 := Lib.hid fun g W => conv_two_at 5 69 (o % 256) (by decide) (by omega) g W
  have HC2 := Lib.hid fun g W => conv_two_at 5 (t % 256) (p % 256) (by omega) (by omega) g W
  have z1 : (w16 (20 + (b.size : Int))).size ≤ 2 := Nat.le_refl _
  have z2 : (w16 n).size ≤ 2 := Nat.le_refl _
  have z3 : (w16 16384).size ≤ 2 := Nat.le_refl _
  have z4 : (w16 0).size ≤ 2 := Nat.le_refl _
  have z5 : (w32 x).size ≤ 4 := Nat.le_refl _
  have z6 : (w32 y).size ≤ 4 := Nat.le_refl _
  have z7 : (two 69 (o % 256)).size ≤ 2 := Nat.le_refl _
  have z8 : (two (t % 256) (p % 256)).size ≤ 2 := Nat.le_refl _
  clear h1 h2 h3 h4 h5 h6

  go_enter Try.func135, Try.ntmps135
  go_wp2_with (go_at_call 145; refine (HV.out _).mono ?_; rintro e w1 ⟨rfl, hb1⟩)
  have hg1 : w.heap.size < w1.heap.size := by have := hb1.size; simp at this; omega
  have HB1 := Lib.hid ((Box.new w #[.int .i64 o, .int .i64 n, .int .i64 t, .int .i64 p, .int .i64 x, .int .i64 y, .string b] 125).below hb1 (by simp))
  have hb01 := below_comp (below_new _) hb1
  clear hb1
  refine wp_region_values (by kernel_rfl) (fun W => Below w1.heap.size w1 W) (Vals [.pointer (some ⟨w.heap.size, 0, none⟩), .int .i64 o, .int .u8 (o % 256), undef, .string (two 69 (o % 256)), .pointer (some ⟨w.heap.size, 6, none⟩), .string b, .int .i64 (b.size : Int), .int .i64 (20 + (b.size : Int)), .string (w16 (20 + (b.size : Int))), .string ((two 69 (o % 256)) ++ (w16 (20 + (b.size : Int)))), .pointer (some ⟨w.heap.size, 1, none⟩), .int .i64 n, .string (w16 n), .string (((two 69 (o % 256)) ++ (w16 (20 + (b.size : Int)))) ++ (w16 n)), .string (w16 16384), .string ((((two 69 (o % 256)) ++ (w16 (20 + (b.size : Int)))) ++ (w16 n)) ++ (w16 16384)), .pointer (some ⟨w.heap.size, 2, none⟩), .int .i64 t, .int .u8 (t % 256), .pointer (some ⟨w.heap.size, 3, none⟩), .int .i64 p, .int .u8 (p % 256), undef, .string (two (t % 256) (p % 256)), .string (((((two 69 (o % 256)) ++ (w16 (20 + (b.size : Int)))) ++ (w16 n)) ++ (w16 16384)) ++ (two (t % 256) (p % 256))), .string (w16 0), .string ((((((two 69 (o % 256)) ++ (w16 (20 + (b.size : Int)))) ++ (w16 n)) ++ (w16 16384)) ++ (two (t % 256) (p % 256))) ++ (w16 0)), .pointer (some ⟨w.heap.size, 4, none⟩), .int .i64 x, .string (w32 x), .string (((((((two 69 (o % 256)) ++ (w16 (20 + (b.size : Int)))) ++ (w16 n)) ++ (w16 16384)) ++ (two (t % 256) (p % 256))) ++ (w16 0)) ++ (w32 x)), .pointer (some ⟨w.heap.size, 5, none⟩), .int .i64 y, .string (w32 y), .string ((((((((two 69 (o % 256)) ++ (w16 (20 + (b.size : Int)))) ++ (w16 n)) ++ (w16 16384)) ++ (two (t % 256) (p % 256))) ++ (w16 0)) ++ (w32 x)) ++ (w32 y)), .string ((((((((two 69 (o % 256)) ++ (w16 (20 + (b.size : Int)))) ++ (w16 n)) ++ (w16 16384)) ++ (two (t % 256) (p % 256))) ++ (w16 0)) ++ (w32 x)) ++ (w32 y))] [(3, #[.int .u8 69, .int .u8 (o % 256)], 5, 2), (23, #[.int .u8 (t % 256), .int .u8 (p % 256)], 5, 2)])
    49 rfl (by kernel_rfl) (by kernel_rfl) below_drew (eachOp_all ?_) ?_
  · refine ⟨?_, ?_, ?_, ?_, ?_, ?_, ?_, ?_, ?_, ?_, ?_, ?_, ?_, ?_, ?_, ?_, ?_, ?_, ?_, ?_, ?_, ?_, ?_, ?_, ?_, ?_, ?_, ?_, ?_, ?_, ?_, ?_, ?_, ?_, ?_, ?_, ?_, trivial⟩
    · intro a W hd hS hdep hfree
      have x1 : a.tmps.getD 1 undef = .pointer (some ⟨w.heap.size, 0, none⟩) := hfree 1 rfl
      clear hd hdep hfree
      simp only [Oper.wp, execOp]
      go_simp
      refine Nxt.mk _ rfl (fun _ _ => ?_) hS (fun _ _ h => h)
      rfl
    · intro a W hd hS hdep hfree
      have x8 : a.tmps.getD 8 undef = .pointer (some ⟨w.heap.size, 0, none⟩) := hdep 0 8 rfl rfl
      clear hd hdep hfree
      have c : W.cell? ⟨w.heap.size, 0, none⟩ = some (.int .i64 o) := (HB1.out.below hS hg1).cell 0 (by simp)
      simp only [Oper.wp, execOp]
      go_simp
      refine Nxt.mk _ rfl (fun _ _ => ?_) hS (fun _ _ h => h)
      rfl
    · intro a W hd hS hdep hfree
      have x9 : a.tmps.getD 9 undef = .int .i64 o := hdep 1 9 rfl rfl
      clear hd hdep hfree
      simp only [Oper.wp, execOp]
      go_simp
      refine Nxt.mk _ rfl (fun _ _ => ?_) hS (fun _ _ h => h)
      rfl
    · intro a W hd hS hdep hfree
      have x10 : a.tmps.getD 10 undef = .int .u8 (o % 256) := hdep 2 10 rfl rfl
      have y10 : a.tmps[10]?.getD undef = .int .u8 (o % 256) := by rw [← Array.getD_eq_getD_getElem?]; exact x10
      clear hd hdep hfree
      simp only [Oper.wp, execOp]
      go_simp
      exact Nxt.mk _ rfl (fun _ _ => ⟨W.heap.size, rfl, heap_alloc_new W _, by simp⟩) (below_comp hS (below_new _)) (fun j u h => Vals.below (below_new _) j u h)
    · intro a W hd hS hdep hfree
      obtain ⟨g11, x11, hx11, hl11⟩ : SliceAt W (a.tmps.getD 11 undef) #[.int .u8 69, .int .u8 (o % 256)] 5 2 := hdep 3 11 rfl rfl
      clear hd hdep hfree
      have hcv := HC1.out g11 W hx11
      simp only [Oper.wp, execOp]
      go_simp
      refine Nxt.mk _ rfl (fun _ _ => ?_) hS (fun _ _ h => h)
      rfl
    · intro a W hd hS hdep hfree
      have x1 : a.tmps.getD 1 undef = .pointer (some ⟨w.heap.size, 0, none⟩) := hfree 1 rfl
      clear hd hdep hfree
      simp only [Oper.wp, execOp]
      go_simp
      refine Nxt.mk _ rfl (fun _ _ => ?_) hS (fun _ _ h => h)
      rfl
    · intro a W hd hS hdep hfree
      have x13 : a.tmps.getD 13 undef = .pointer (some ⟨w.heap.size, 6, none⟩) := hdep 5 13 rfl rfl
      clear hd hdep hfree
      have c : W.cell? ⟨w.heap.size, 6, none⟩ = some (.string b) := (HB1.out.below hS hg1).cell 6 (by simp)
      simp only [Oper.wp, execOp]
      go_simp
      refine Nxt.mk _ rfl (fun _ _ => ?_) hS (fun _ _ h => h)
      rfl
    · intro a W hd hS hdep hfree
      have x14 : a.tmps.getD 14 undef = .string b := hdep 6 14 rfl rfl
      clear hd hdep hfree
      simp only [Oper.wp, execOp]
      go_simp
      refine Nxt.mk _ rfl (fun _ _ => ?_) hS (fun _ _ h => h)
      rfl
    · intro a W hd hS hdep hfree
      have x15 : a.tmps.getD 15 undef = .int .i64 (b.size : Int) := hdep 7 15 rfl rfl
      clear hd hdep hfree
      have k : IntKind.i64.wrap (20 + (b.size : Int)) = 20 + (b.size : Int) := wrap_in _ (by omega) (by omega)
      simp only [Oper.wp, execOp]
      go_simp
      refine Nxt.mk _ rfl (fun _ _ => ?_) hS (fun _ _ h => h)
      rfl
    · intro a W hd hS hdep hfree
      have x16 : a.tmps.getD 16 undef = .int .i64 (20 + (b.size : Int)) := hdep 8 16 rfl rfl
      clear hd hdep hfree
      simp only [Oper.wp, execOp]
      go_simp
      refine (HWl.out W).mono ?_
      rintro e W' ⟨rfl, hb⟩
      exact Nxt.mk _ rfl (fun _ _ => rfl) (below_comp hS hb) (fun j u h => Vals.below hb j u h)
    · intro a W hd hS hdep hfree
      have x12 : a.tmps.getD 12 undef = .string (two 69 (o % 256)) := hdep 4 12 rfl rfl
      have x17 : a.tmps.getD 17 undef = .string (w16 (20 + (b.size : Int))) := hdep 9 17 rfl rfl
      clear hd hdep hfree
      have k : ¬ 9223372036854775807 < (two 69 (o % 256)).size + (w16 (20 + (b.size : Int))).size := by (try simp only [ByteArray.size_append]); omega
      have k2 := k
      try simp only [ByteArray.size_append] at k2
      simp only [Oper.wp, execOp]
      go_simp
      refine Nxt.mk _ rfl (fun _ _ => ?_) hS (fun _ _ h => h)
      rfl
    · intro a W hd hS hdep hfree
      have x1 : a.tmps.getD 1 undef = .pointer (some ⟨w.heap.size, 0, none⟩) := hfree 1 rfl
      clear hd hdep hfree
      simp only [Oper.wp, execOp]
      go_simp
      refine Nxt.mk _ rfl (fun _ _ => ?_) hS (fun _ _ h => h)
      rfl
    · intro a W hd hS hdep hfree
      have x19 : a.tmps.getD 19 undef = .pointer (some ⟨w.heap.size, 1, none⟩) := hdep 11 19 rfl rfl
      clear hd hdep hfree
      have c : W.cell? ⟨w.heap.size, 1, none⟩ = some (.int .i64 n) := (HB1.out.below hS hg1).cell 1 (by simp)
      simp only [Oper.wp, execOp]
      go_simp
      refine Nxt.mk _ rfl (fun _ _ => ?_) hS (fun _ _ h => h)
      rfl
    · intro a W hd hS hdep hfree
      have x20 : a.tmps.getD 20 undef = .int .i64 n := hdep 12 20 rfl rfl
      clear hd hdep hfree
      simp only [Oper.wp, execOp]
      go_simp
      refine (HWn.out W).mono ?_
      rintro e W' ⟨rfl, hb⟩
      exact Nxt.mk _ rfl (fun _ _ => rfl) (below_comp hS hb) (fun j u h => Vals.below hb j u h)
    · intro a W hd hS hdep hfree
      have x18 : a.tmps.getD 18 undef = .string ((two 69 (o % 256)) ++ (w16 (20 + (b.size : Int)))) := hdep 10 18 rfl rfl
      have x21 : a.tmps.getD 21 undef = .string (w16 n) := hdep 13 21 rfl rfl
      clear hd hdep hfree
      have k : ¬ 9223372036854775807 < ((two 69 (o % 256)) ++ (w16 (20 + (b.size : Int)))).size + (w16 n).size := by (try simp only [ByteArray.size_append]); omega
      have k2 := k
      try simp only [ByteArray.size_append] at k2
      simp only [Oper.wp, execOp]
      go_simp
      refine Nxt.mk _ rfl (fun _ _ => ?_) hS (fun _ _ h => h)
      rfl
    · intro a W hd hS hdep hfree
      clear hd hdep hfree
      simp only [Oper.wp, execOp]
      go_simp
      refine (HWd.out W).mono ?_
      rintro e W' ⟨rfl, hb⟩
      exact Nxt.mk _ rfl (fun _ _ => rfl) (below_comp hS hb) (fun j u h => Vals.below hb j u h)
    · intro a W hd hS hdep hfree
      have x22 : a.tmps.getD 22 undef = .string (((two 69 (o % 256)) ++ (w16 (20 + (b.size : Int)))) ++ (w16 n)) := hdep 14 22 rfl rfl
      have x23 : a.tmps.getD 23 undef = .string (w16 16384) := hdep 15 23 rfl rfl
      clear hd hdep hfree
      have k : ¬ 9223372036854775807 < (((two 69 (o % 256)) ++ (w16 (20 + (b.size : Int)))) ++ (w16 n)).size + (w16 16384).size := by (try simp only [ByteArray.size_append]); omega
      have k2 := k
      try simp only [ByteArray.size_append] at k2
      simp only [Oper.wp, execOp]
      go_simp
      refine Nxt.mk _ rfl (fun _ _ => ?_) hS (fun _ _ h => h)
      rfl
    · intro a W hd hS hdep hfree
      have x1 : a.tmps.getD 1 undef = .pointer (some ⟨w.heap.size, 0, none⟩) := hfree 1 rfl
      clear hd hdep hfree
      simp only [Oper.wp, execOp]
      go_simp
      refine Nxt.mk _ rfl (fun _ _ => ?_) hS (fun _ _ h => h)
      rfl
    · intro a W hd hS hdep hfree
      have x25 : a.tmps.getD 25 undef = .pointer (some ⟨w.heap.size, 2, none⟩) := hdep 17 25 rfl rfl
      clear hd hdep hfree
      have c : W.cell? ⟨w.heap.size, 2, none⟩ = some (.int .i64 t) := (HB1.out.below hS hg1).cell 2 (by simp)
      simp only [Oper.wp, execOp]
      go_simp
      refine Nxt.mk _ rfl (fun _ _ => ?_) hS (fun _ _ h => h)
      rfl
    · intro a W hd hS hdep hfree
      have x26 : a.tmps.getD 26 undef = .int .i64 t := hdep 18 26 rfl rfl
      clear hd hdep hfree
      simp only [Oper.wp, execOp]
      go_simp
      refine Nxt.mk _ rfl (fun _ _ => ?_) hS (fun _ _ h => h)
      rfl
    · intro a W hd hS hdep hfree
      have x1 : a.tmps.getD 1 undef = .pointer (some ⟨w.heap.size, 0, none⟩) := hfree 1 rfl
      clear hd hdep hfree
      simp only [Oper.wp, execOp]
      go_simp
      refine Nxt.mk _ rfl (fun _ _ => ?_) hS (fun _ _ h => h)
      rfl
    · intro a W hd hS hdep hfree
      have x28 : a.tmps.getD 28 undef = .pointer (some ⟨w.heap.size, 3, none⟩) := hdep 20 28 rfl rfl
      clear hd hdep hfree
      have c : W.cell? ⟨w.heap.size, 3, none⟩ = some (.int .i64 p) := (HB1.out.below hS hg1).cell 3 (by simp)
      simp only [Oper.wp, execOp]
      go_simp
      refine Nxt.mk _ rfl (fun _ _ => ?_) hS (fun _ _ h => h)
      rfl
    · intro a W hd hS hdep hfree
      have x29 : a.tmps.getD 29 undef = .int .i64 p := hdep 21 29 rfl rfl
      clear hd hdep hfree
      simp only [Oper.wp, execOp]
      go_simp
      refine Nxt.mk _ rfl (fun _ _ => ?_) hS (fun _ _ h => h)
      rfl
    · intro a W hd hS hdep hfree
      have x27 : a.tmps.getD 27 undef = .int .u8 (t % 256) := hdep 19 27 rfl rfl
      have x30 : a.tmps.getD 30 undef = .int .u8 (p % 256) := hdep 22 30 rfl rfl
      have y27 : a.tmps[27]?.getD undef = .int .u8 (t % 256) := by rw [← Array.getD_eq_getD_getElem?]; exact x27
      have y30 : a.tmps[30]?.getD undef = .int .u8 (p % 256) := by rw [← Array.getD_eq_getD_getElem?]; exact x30
      clear hd hdep hfree
      simp only [Oper.wp, execOp]
      go_simp
      exact Nxt.mk _ rfl (fun _ _ => ⟨W.heap.size, rfl, heap_alloc_new W _, by simp⟩) (below_comp hS (below_new _)) (fun j u h => Vals.below (below_new _) j u h)
    · intro a W hd hS hdep hfree
      obtain ⟨g31, x31, hx31, hl31⟩ : SliceAt W (a.tmps.getD 31 undef) #[.int .u8 (t % 256), .int .u8 (p % 256)] 5 2 := hdep 23 31 rfl rfl
      clear hd hdep hfree
      have hcv := HC2.out g31 W hx31
      simp only [Oper.wp, execOp]
      go_simp
      refine Nxt.mk _ rfl (fun _ _ => ?_) hS (fun _ _ h => h)
      rfl
    · intro a W hd hS hdep hfree
      have x24 : a.tmps.getD 24 undef = .string ((((two 69 (o % 256)) ++ (w16 (20 + (b.size : Int)))) ++ (w16 n)) ++ (w16 16384)) := hdep 16 24 rfl rfl
      have x32 : a.tmps.getD 32 undef = .string (two (t % 256) (p % 256)) := hdep 24 32 rfl rfl
      clear hd hdep hfree
      have k : ¬ 9223372036854775807 < ((((two 69 (o % 256)) ++ (w16 (20 + (b.size : Int)))) ++ (w16 n)) ++ (w16 16384)).size + (two (t % 256) (p % 256)).size := by (try simp only [ByteArray.size_append]); omega
      have k2 := k
      try simp only [ByteArray.size_append] at k2
      simp only [Oper.wp, execOp]
      go_simp
      refine Nxt.mk _ rfl (fun _ _ => ?_) hS (fun _ _ h => h)
      rfl
    · intro a W hd hS hdep hfree
      clear hd hdep hfree
      simp only [Oper.wp, execOp]
      go_simp
      refine (HW0.out W).mono ?_
      rintro e W' ⟨rfl, hb⟩
      exact Nxt.mk _ rfl (fun _ _ => rfl) (below_comp hS hb) (fun j u h => Vals.below hb j u h)
    · intro a W hd hS hdep hfree
      have x33 : a.tmps.getD 33 undef = .string (((((two 69 (o % 256)) ++ (w16 (20 + (b.size : Int)))) ++ (w16 n)) ++ (w16 16384)) ++ (two (t % 256) (p % 256))) := hdep 25 33 rfl rfl
      have x34 : a.tmps.getD 34 undef = .string (w16 0) := hdep 26 34 rfl rfl
      clear hd hdep hfree
      have k : ¬ 9223372036854775807 < (((((two 69 (o % 256)) ++ (w16 (20 + (b.size : Int)))) ++ (w16 n)) ++ (w16 16384)) ++ (two (t % 256) (p % 256))).size + (w16 0).size := by (try simp only [ByteArray.size_append]); omega
      have k2 := k
      try simp only [ByteArray.size_append] at k2
      simp only [Oper.wp, execOp]
      go_simp
      refine Nxt.mk _ rfl (fun _ _ => ?_) hS (fun _ _ h => h)
      rfl
    · intro a W hd hS hdep hfree
      have x1 : a.tmps.getD 1 undef = .pointer (some ⟨w.heap.size, 0, none⟩) := hfree 1 rfl
      clear hd hdep hfree
      simp only [Oper.wp, execOp]
      go_simp
      refine Nxt.mk _ rfl (fun _ _ => ?_) hS (fun _ _ h => h)
      rfl
    · intro a W hd hS hdep hfree
      have x36 : a.tmps.getD 36 undef = .pointer (some ⟨w.heap.size, 4, none⟩) := hdep 28 36 rfl rfl
      clear hd hdep hfree
      have c : W.cell? ⟨w.heap.size, 4, none⟩ = some (.int .i64 x) := (HB1.out.below hS hg1).cell 4 (by simp)
      simp only [Oper.wp, execOp]
      go_simp
      refine Nxt.mk _ rfl (fun _ _ => ?_) hS (fun _ _ h => h)
      rfl
    · intro a W hd hS hdep hfree
      have x37 : a.tmps.getD 37 undef = .int .i64 x := hdep 29 37 rfl rfl
      clear hd hdep hfree
      simp only [Oper.wp, execOp]
      go_simp
      refine (HW_x.out W).mono ?_
      rintro e W' ⟨rfl, hb⟩
      exact Nxt.mk _ rfl (fun _ _ => rfl) (below_comp hS hb) (fun j u h => Vals.below hb j u h)
    · intro a W hd hS hdep hfree
      have x35 : a.tmps.getD 35 undef = .string ((((((two 69 (o % 256)) ++ (w16 (20 + (b.size : Int)))) ++ (w16 n)) ++ (w16 16384)) ++ (two (t % 256) (p % 256))) ++ (w16 0)) := hdep 27 35 rfl rfl
      have x38 : a.tmps.getD 38 undef = .string (w32 x) := hdep 30 38 rfl rfl
      clear hd hdep hfree
      have k : ¬ 9223372036854775807 < ((((((two 69 (o % 256)) ++ (w16 (20 + (b.size : Int)))) ++ (w16 n)) ++ (w16 16384)) ++ (two (t % 256) (p % 256))) ++ (w16 0)).size + (w32 x).size := by (try simp only [ByteArray.size_append]); omega
      have k2 := k
      try simp only [ByteArray.size_append] at k2
      simp only [Oper.wp, execOp]
      go_simp
      refine Nxt.mk _ rfl (fun _ _ => ?_) hS (fun _ _ h => h)
      rfl
    · intro a W hd hS hdep hfree
      have x1 : a.tmps.getD 1 undef = .pointer (some ⟨w.heap.size, 0, none⟩) := hfree 1 rfl
      clear hd hdep hfree
      simp only [Oper.wp, execOp]
      go_simp
      refine Nxt.mk _ rfl (fun _ _ => ?_) hS (fun _ _ h => h)
      rfl
    · intro a W hd hS hdep hfree
      have x40 : a.tmps.getD 40 undef = .pointer (some ⟨w.heap.size, 5, none⟩) := hdep 32 40 rfl rfl
      clear hd hdep hfree
      have c : W.cell? ⟨w.heap.size, 5, none⟩ = some (.int .i64 y) := (HB1.out.below hS hg1).cell 5 (by simp)
      simp only [Oper.wp, execOp]
      go_simp
      refine Nxt.mk _ rfl (fun _ _ => ?_) hS (fun _ _ h => h)
      rfl
    · intro a W hd hS hdep hfree
      have x41 : a.tmps.getD 41 undef = .int .i64 y := hdep 33 41 rfl rfl
      clear hd hdep hfree
      simp only [Oper.wp, execOp]
      go_simp
      refine (HW_y.out W).mono ?_
      rintro e W' ⟨rfl, hb⟩
      exact Nxt.mk _ rfl (fun _ _ => rfl) (below_comp hS hb) (fun j u h => Vals.below hb j u h)
    · intro a W hd hS hdep hfree
      have x39 : a.tmps.getD 39 undef = .string (((((((two 69 (o % 256)) ++ (w16 (20 + (b.size : Int)))) ++ (w16 n)) ++ (w16 16384)) ++ (two (t % 256) (p % 256))) ++ (w16 0)) ++ (w32 x)) := hdep 31 39 rfl rfl
      have x42 : a.tmps.getD 42 undef = .string (w32 y) := hdep 34 42 rfl rfl
      clear hd hdep hfree
      have k : ¬ 9223372036854775807 < (((((((two 69 (o % 256)) ++ (w16 (20 + (b.size : Int)))) ++ (w16 n)) ++ (w16 16384)) ++ (two (t % 256) (p % 256))) ++ (w16 0)) ++ (w32 x)).size + (w32 y).size := by (try simp only [ByteArray.size_append]); omega
      have k2 := k
      try simp only [ByteArray.size_append] at k2
      simp only [Oper.wp, execOp]
      go_simp
      refine Nxt.mk _ rfl (fun _ _ => ?_) hS (fun _ _ h => h)
      rfl
    · intro a W hd hS hdep hfree
      have x43 : a.tmps.getD 43 undef = .string ((((((((two 69 (o % 256)) ++ (w16 (20 + (b.size : Int)))) ++ (w16 n)) ++ (w16 16384)) ++ (two (t % 256) (p % 256))) ++ (w16 0)) ++ (w32 x)) ++ (w32 y)) := hdep 35 43 rfl rfl
      clear hd hdep hfree
      simp only [Oper.wp, execOp]
      go_simp
      refine Nxt.mk _ rfl (fun _ _ => ?_) hS (fun _ _ h => h)
      rfl
  intro a W2 hs hd hS2 hdone hrest
  obtain ⟨u11, hu11⟩ : ∃ u, a.tmps.getD 11 undef = u := ⟨_, rfl⟩
  obtain ⟨u31, hu31⟩ : ∃ u, a.tmps.getD 31 undef = u := ⟨_, rfl⟩
  have ea := written_all [.pointer (some ⟨w.heap.size, 0, none⟩), .int .i64 o, .int .u8 (o % 256), u11, .string (two 69 (o % 256)), .pointer (some ⟨w.heap.size, 6, none⟩), .string b, .int .i64 (b.size : Int), .int .i64 (20 + (b.size : Int)), .string (w16 (20 + (b.size : Int))), .string ((two 69 (o % 256)) ++ (w16 (20 + (b.size : Int)))), .pointer (some ⟨w.heap.size, 1, none⟩), .int .i64 n, .string (w16 n), .string (((two 69 (o % 256)) ++ (w16 (20 + (b.size : Int)))) ++ (w16 n)), .string (w16 16384), .string ((((two 69 (o % 256)) ++ (w16 (20 + (b.size : Int)))) ++ (w16 n)) ++ (w16 16384)), .pointer (some ⟨w.heap.size, 2, none⟩), .int .i64 t, .int .u8 (t % 256), .pointer (some ⟨w.heap.size, 3, none⟩), .int .i64 p, .int .u8 (p % 256), u31, .string (two (t % 256) (p % 256)), .string (((((two 69 (o % 256)) ++ (w16 (20 + (b.size : Int)))) ++ (w16 n)) ++ (w16 16384)) ++ (two (t % 256) (p % 256))), .string (w16 0), .string ((((((two 69 (o % 256)) ++ (w16 (20 + (b.size : Int)))) ++ (w16 n)) ++ (w16 16384)) ++ (two (t % 256) (p % 256))) ++ (w16 0)), .pointer (some ⟨w.heap.size, 4, none⟩), .int .i64 x, .string (w32 x), .string (((((((two 69 (o % 256)) ++ (w16 (20 + (b.size : Int)))) ++ (w16 n)) ++ (w16 16384)) ++ (two (t % 256) (p % 256))) ++ (w16 0)) ++ (w32 x)), .pointer (some ⟨w.heap.size, 5, none⟩), .int .i64 y, .string (w32 y), .string ((((((((two 69 (o % 256)) ++ (w16 (20 + (b.size : Int)))) ++ (w16 n)) ++ (w16 16384)) ++ (two (t % 256) (p % 256))) ++ (w16 0)) ++ (w32 x)) ++ (w32 y)), .string ((((((((two 69 (o % 256)) ++ (w16 (20 + (b.size : Int)))) ++ (w16 n)) ++ (w16 16384)) ++ (two (t % 256) (p % 256))) ++ (w16 0)) ++ (w32 x)) ++ (w32 y))] rfl hs hd hrest (fun j d hj => by
    have h := hdone j d hj
    match j, hj, h with
    | 0, _, h => exact h
    | 1, _, h => exact h
    | 2, _, h => exact h
    | 3, hj, _ => exact (Option.some.inj hj) ▸ hu11
    | 4, _, h => exact h
    | 5, _, h => exact h
    | 6, _, h => exact h
    | 7, _, h => exact h
    | 8, _, h => exact h
    | 9, _, h => exact h
    | 10, _, h => exact h
    | 11, _, h => exact h
    | 12, _, h => exact h
    | 13, _, h => exact h
    | 14, _, h => exact h
    | 15, _, h => exact h
    | 16, _, h => exact h
    | 17, _, h => exact h
    | 18, _, h => exact h
    | 19, _, h => exact h
    | 20, _, h => exact h
    | 21, _, h => exact h
    | 22, _, h => exact h
    | 23, hj, _ => exact (Option.some.inj hj) ▸ hu31
    | 24, _, h => exact h
    | 25, _, h => exact h
    | 26, _, h => exact h
    | 27, _, h => exact h
    | 28, _, h => exact h
    | 29, _, h => exact h
    | 30, _, h => exact h
    | 31, _, h => exact h
    | 32, _, h => exact h
    | 33, _, h => exact h
    | 34, _, h => exact h
    | 35, _, h => exact h
    | 36, _, h => exact h
    | n + 37, hj, _ => exact absurd (dstOf_lt hj) (by simp))
  clear hu11 hu31
  clear hs hd hdone hrest
  subst ea
  simp only [written, List.map_cons, List.map_nil, List.zip_cons_cons, List.zip_nil_right, putAll]
  simp only [Exit.then, Act.put, List.setIfInBounds_toArray, List.set_cons_zero, List.set_cons_succ]
  obtain ⟨H, HH⟩ : ∃ H, Hid (H = IpM.blank ⟨o, n, t, p, x, y, b⟩) := ⟨_, Lib.hid rfl⟩
  rw [show ((((((((two 69 (o % 256)) ++ (w16 (20 + (b.size : Int)))) ++ (w16 n)) ++ (w16 16384)) ++ (two (t % 256) (p % 256))) ++ (w16 0)) ++ (w32 x)) ++ (w32 y)) = H from HH.out.symm]
  have hHs : H.size ≤ 4194304 := by rw [HH.out, HB20.out]; decide
  obtain ⟨s0, s1⟩ := sumW_bd H
  have HC := Lib.hid fun W => impl_checksum_any H W hHs
  have HW := Lib.hid fun W => (by have := impl_word16 (65535 - sumW H) W; rwa [word16_in _ (by omega)] at this : Calls Try.prog 123 #[.int .i64 (65535 - sumW H)] W fun r w' => r = .returned (.string (w16 (65535 - sumW H))) ∧ Below W.heap.size W w')
  have HP := Lib.hid fun W => impl_put_any H 10 (w16 (65535 - sumW H)) W hHs (by show 2 ≤ 4194304; decide) (by decide)
  go_wp2_with (first
    | (go_at_call 134; refine (HC.out _).mono ?_; rintro e w3 ⟨rfl, hb3⟩)
    | (go_at_call 123; refine (HW.out _).mono ?_; rintro e w4 ⟨rfl, hb4⟩)
    | (go_at_call 146; refine (HP.out _).mono ?_; rintro e w5 ⟨rfl, hb5⟩))
  go_ret2
  refine ⟨ret_str_bool ?_ rfl, below_comp (below_comp (below_comp (below_comp hb01 hS2) hb3) hb4) hb5⟩
  rw [HR.out, HH.out]
  rfl

end Go.Proofs.Ytbidaccdjnbhfaa

/- IpHeader and BuildIp of both sides, at every datagram. -/
namespace Go.Proofs.Ytbidaccdjnbhfaa
open Go.RowKit
set_option linter.unusedSimpArgs false
theorem head_yes {e : IpM} (h : e.Ok) : e.head = e.header := if_pos h
theorem head_no {e : IpM} (h : ¬ e.Ok) : e.head = ⟨#[]⟩ := if_neg h
theorem ipbuilt_yes {e : IpM} (h : e.Ok) : e.built = e.bytes := if_pos h
theorem ipbuilt_no {e : IpM} (h : ¬ e.Ok) : e.built = ⟨#[]⟩ := if_neg h

set_option maxHeartbeats 2000000 in
theorem spec_header_no (e : IpM) (w : World) (h : ¬ e.Ok) :
    Calls Try.prog 128 #[e.val] w fun r w' => r = .returned (.tuple #[.string ⟨#[]⟩, .bool false]) ∧ Below w.heap.size w w' := by
  have HV : Hid (∀ w1, Calls Try.prog 142 #[e.val] w1 fun r w' => r = .returned (.bool false) ∧ Below w1.heap.size w1 w') := Lib.hid fun w1 => by have := spec_ipok e w1; rwa [decide_eq_false h] at this
  clear h
  obtain ⟨o, n, t, p, x, y, b⟩ := e
  unfold IpM.val at *
  dsimp only at *
  go_enter Try.func128, Try.ntmps128
  go_wp2_with (go_at_call 142; refine (HV.out _).mono ?_; rintro e w1 ⟨rfl, hb1⟩)
  go_ret2
  exact ⟨rfl, below_comp (below_new _) hb1⟩
theorem spec_header (e : IpM) (w : World) :
    Calls Try.prog 128 #[e.val] w fun r w' => r = .returned (.tuple #[.string e.head, .bool (decide e.Ok)]) ∧ Below w.heap.size w w' := by
  by_cases h : e.Ok
  · rw [head_yes h, decide_eq_true h]; exact spec_header_yes e w h
  · rw [head_no h, decide_eq_false h]; exact spec_header_no e w h
set_option maxHeartbeats 2000000 in
theorem spec_buildip (e : IpM) (w : World) :
    Calls Try.prog 114 #[e.val] w fun r w' => r = .returned (.tuple #[.string e.built, .bool (decide e.Ok)]) ∧ Below w.heap.size w w' := by
  have HV := Lib.hid fun W => spec_header e W
  by_cases h : e.Ok
  case' pos =>
    have HR : Hid (e.header ++ e.body = e.built) := Lib.hid (ipbuilt_yes h).symm
    have hz : e.header.size ≤ 20 := by rw [e.header_size]; omega
    have h7 : (e.body.size : Int) ≤ 380 := h.2.2.2.2.2.2
    rw [head_yes h, decide_eq_true h] at HV
    rw [decide_eq_true h]
  case' neg =>
    have HR : Hid (⟨#[]⟩ = e.built) := Lib.hid (ipbuilt_no h).symm
    rw [head_no h, decide_eq_false h] at HV
    rw [decide_eq_false h]
    have h7 : True := trivial
    have hz : True := trivial
  all_goals
    clear h
    generalize e.built = R at HR ⊢
    try generalize e.header = H at HR HV hz
    obtain ⟨o, n, t, p, x, y, b⟩ := e
    unfold IpM.val at *
    dsimp only at *
    try have k : ¬ 9223372036854775807 < H.size + b.size := by omega
    go_enter Try.func114, Try.ntmps114
    go_wp2_with (go_at_call 128; refine (HV.out _).mono ?_; rintro e w1 ⟨rfl, hb1⟩; obtain ⟨hc, hf, _⟩ := bcell hb1)
    go_ret2
    exact ⟨ret_str_bool (by first | exact HR.out | rfl) rfl, below_comp (below_new _) hb1⟩

set_option maxHeartbeats 2000000 in
theorem impl_header_no (e : IpM) (w : World) (h : ¬ e.Ok) :
    Calls Try.prog 135 #[e.val] w fun r w' => r = .returned (.tuple #[.string ⟨#[]⟩, .bool false]) ∧ Below w.heap.size w w' := by
  have HV : Hid (∀ w1, Calls Try.prog 145 #[e.val] w1 fun r w' => r = .returned (.bool false) ∧ Below w1.heap.size w1 w') := Lib.hid fun w1 => by have := impl_ipok e w1; rwa [decide_eq_false h] at this
  clear h
  obtain ⟨o, n, t, p, x, y, b⟩ := e
  unfold IpM.val at *
  dsimp only at *
  go_enter Try.func135, Try.ntmps135
  go_wp2_with (go_at_call 145; refine (HV.out _).mono ?_; rintro e w1 ⟨rfl, hb1⟩)
  go_ret2
  exact ⟨rfl, below_comp (below_new _) hb1⟩
theorem impl_header (e : IpM) (w : World) :
    Calls Try.prog 135 #[e.val] w fun r w' => r = .returned (.tuple #[.string e.head, .bool (decide e.Ok)]) ∧ Below w.heap.size w w' := by
  by_cases h : e.Ok
  · rw [head_yes h, decide_eq_true h]; exact impl_header_yes e w h
  · rw [head_no h, decide_eq_false h]; exact impl_header_no e w h
set_option maxHeartbeats 2000000 in
theorem impl_buildip (e : IpM) (w : World) :
    Calls Try.prog 119 #[e.val] w fun r w' => r = .returned (.tuple #[.string e.built, .bool (decide e.Ok)]) ∧ Below w.heap.size w w' := by
  have HV := Lib.hid fun W => impl_header e W
  by_cases h : e.Ok
  case' pos =>
    have HR : Hid (e.header ++ e.body = e.built) := Lib.hid (ipbuilt_yes h).symm
    have hz : e.header.size ≤ 20 := by rw [e.header_size]; omega
    have h7 : (e.body.size : Int) ≤ 380 := h.2.2.2.2.2.2
    rw [head_yes h, decide_eq_true h] at HV
    rw [decide_eq_true h]
  case' neg =>
    have HR : Hid (⟨#[]⟩ = e.built) := Lib.hid (ipbuilt_no h).symm
    rw [head_no h, decide_eq_false h] at HV
    rw [decide_eq_false h]
    have h7 : True := trivial
    have hz : True := trivial
  all_goals
    clear h
    generalize e.built = R at HR ⊢
    try generalize e.header = H at HR HV hz
    obtain ⟨o, n, t, p, x, y, b⟩ := e
    unfold IpM.val at *
    dsimp only at *
    try have k : ¬ 9223372036854775807 < H.size + b.size := by omega
    go_enter Try.func119, Try.ntmps119
    go_wp2_with (go_at_call 135; refine (HV.out _).mono ?_; rintro e w1 ⟨rfl, hb1⟩; obtain ⟨hc, hf, _⟩ := bcell hb1)
    go_ret2
    exact ⟨ret_str_bool (by first | exact HR.out | rfl) rfl, below_comp (below_new _) hb1⟩

end Go.Proofs.Ytbidaccdjnbhfaa

/- EthOk of both sides. -/
namespace Go.Proofs.Ytbidaccdjnbhfaa
open Go.RowKit
set_option linter.unusedSimpArgs false
set_option maxHeartbeats 2000000 in
theorem spec_ethok (e : EthM) (w : World) :
    Calls Try.prog 129 #[e.val] w fun r w' => r = .returned (.bool (decide e.Ok)) ∧ Below w.heap.size w w' := by
  obtain ⟨d, s, v, t, b⟩ := e
  unfold EthM.val
  dsimp only
  obtain ⟨B, HB⟩ : ∃ B : Bool, Hid (B = decide (EthM.Ok ⟨d, s, v, t, b⟩) ∧ (B = true ↔ EthM.Ok ⟨d, s, v, t, b⟩)) := ⟨_, Lib.hid ⟨rfl, decide_eq_true_iff⟩⟩
  rw [← HB.out.1]
  go_enter Try.func129, Try.ntmps129
  go_wp2_with (go_at_call 71; refine (spec_in _ _ _ _).mono ?_; rintro e w' ⟨rfl, rfl⟩)
  all_goals
    go_ret
    refine ⟨ret_bool ?_, below_new _⟩
    rw [Bool.eq_iff_iff, HB.out.2]
    unfold EthM.Ok
    dsimp only
    simp only [Bool.and_eq_true, decide_eq_true_eq, bne_iff_ne, Bool.false_eq_true, ne_eq, false_iff, true_iff]
    omega
set_option maxHeartbeats 2000000 in
theorem impl_ethok (e : EthM) (w : World) :
    Calls Try.prog 136 #[e.val] w fun r w' => r = .returned (.bool (decide e.Ok)) ∧ Below w.heap.size w w' := by
  obtain ⟨d, s, v, t, b⟩ := e
  unfold EthM.val
  dsimp only
  obtain ⟨B, HB⟩ : ∃ B : Bool, Hid (B = decide (EthM.Ok ⟨d, s, v, t, b⟩) ∧ (B = true ↔ EthM.Ok ⟨d, s, v, t, b⟩)) := ⟨_, Lib.hid ⟨rfl, decide_eq_true_iff⟩⟩
  rw [← HB.out.1]
  go_enter Try.func136, Try.ntmps136
  go_wp2_with (go_at_call 69; refine (impl_in _ _ _ _).mono ?_; rintro e w' ⟨rfl, rfl⟩)
  all_goals
    go_ret
    refine ⟨ret_bool ?_, below_new _⟩
    rw [Bool.eq_iff_iff, HB.out.2]
    unfold EthM.Ok
    dsimp only
    simp only [Bool.and_eq_true, decide_eq_true_eq, bne_iff_ne, Bool.false_eq_true, ne_eq, false_iff, true_iff]
    omega
end Go.Proofs.Ytbidaccdjnbhfaa
