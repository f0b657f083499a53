/- Contracts of the program's words in byte strings. -/
import Derived.Test.YtdlmplbhhgcffaaWordsAnySpec
import Derived.Test.YtdlmplbhhgcffaaCrcMath
import Derived.Deep.QuietTactic
import Derived.BigQuiet
namespace Go.Proofs.Ytdlmplbhhgcffaa
open Go.RowKit

theorem or64_shift (a b k : Nat) (hb : b < 2 ^ k) (ha : a * 2 ^ k + b < 9223372036854775808) : bits .or .i64 ((a * 2 ^ k : Nat) : Int) (b : Int) = ((a * 2 ^ k + b : Nat) : Int) := by
  have h0 : a * 2 ^ k ||| b = a * 2 ^ k + b := by
    rw [← Nat.shiftLeft_eq, Nat.shiftLeft_add_eq_or_of_lt hb]
  show IntKind.i64.wrap ((BitVec.ofInt 64 ((a * 2 ^ k : Nat) : Int) ||| BitVec.ofInt 64 (b : Int)).toNat : Int) = _
  rw [BitVec.toNat_or, ofInt64 _ (by omega), ofInt64 b (by omega), h0, IntKind.wrap_i64]
  omega
theorem or_8 (a b : Int) (ha : 0 ≤ a ∧ a ≤ 255) (hb : 0 ≤ b ∧ b ≤ 255) : bits .or .i64 (a * 256) b = a * 256 + b := by
  obtain ⟨m, rfl⟩ : ∃ m : Nat, a = m := ⟨a.toNat, by omega⟩
  obtain ⟨n, rfl⟩ : ∃ n : Nat, b = n := ⟨b.toNat, by omega⟩
  have h := or64_shift m n 8 (by omega) (by omega)
  simpa using h
theorem or_16 (a b : Int) (ha : 0 ≤ a ∧ a ≤ 65535) (hb : 0 ≤ b ∧ b ≤ 65535) : bits .or .i64 (a * 65536) b = a * 65536 + b := by
  obtain ⟨m, rfl⟩ : ∃ m : Nat, a = m := ⟨a.toNat, by omega⟩
  obtain ⟨n, rfl⟩ : ∃ n : Nat, b = n := ⟨b.toNat, by omega⟩
  have h := or64_shift m n 16 (by omega) (by omega)
  simpa using h
theorem and_16 (x : Int) (h0 : 0 ≤ x) (h1 : x < 9223372036854775808) : bits .and .i64 x 65535 = x % 65536 := by
  obtain ⟨n, rfl⟩ : ∃ n : Nat, x = n := ⟨x.toNat, by omega⟩
  have h := and64 n 65535 (by omega) (by decide)
  rw [show ((65535 : Nat) : Int) = 65535 from rfl] at h
  rw [h, show (65535 : Nat) = 2 ^ 16 - 1 from rfl, Nat.and_two_pow_sub_one_eq_mod]
  rfl
theorem w32_two (v : Int) : w16 (v / 65536) ++ w16 (v % 65536) = w32 v := by
  unfold w16 w32
  have e1 : low (v / 65536 / 256) = low (v / 16777216) := by unfold low; rw [show v / 65536 / 256 = v / 16777216 from by omega]
  have e2 : low (v % 65536 / 256) = low (v / 256) := by unfold low; rw [show v % 65536 / 256 % 256 = v / 256 % 256 from by omega]
  have e3 : low (v % 65536) = low v := by unfold low; rw [show v % 65536 % 256 = v % 256 from by omega]
  rw [e1, e2, e3]
  rfl

theorem impl_within_yes (x lo hi : Int) (w : World) (h : lo ≤ x ∧ x ≤ hi) :
    Calls Try.prog 63 #[.int .i64 x, .int .i64 lo, .int .i64 hi] w fun e w' => e = .returned (.bool true) ∧ w = w' := by
  obtain ⟨h1, h2⟩ := h
  go_enter Try.func63, Try.ntmps63
  go_wp2
  go_ret
  exact ⟨rfl, rfl⟩
theorem impl_within_no (x lo hi : Int) (w : World) (h : ¬ (lo ≤ x ∧ x ≤ hi)) :
    Calls Try.prog 63 #[.int .i64 x, .int .i64 lo, .int .i64 hi] w fun e w' => e = .returned (.bool false) ∧ w = w' := by
  by_cases h1 : lo ≤ x
  · have h2 : ¬ x ≤ hi := fun h2 => h ⟨h1, h2⟩
    clear h
    go_enter Try.func63, Try.ntmps63
    go_wp2
    go_ret
    exact ⟨rfl, rfl⟩
  · clear h
    go_enter Try.func63, Try.ntmps63
    go_wp2
    go_ret
    exact ⟨rfl, rfl⟩

theorem impl_word16_in (v : Int) (w : World) (h0 : 0 ≤ v) (h1 : v ≤ 65535) :
    Calls Try.prog 60 #[.int .i64 v] w fun e w' => e = .returned (.string (w16 v)) ∧ Below w.heap.size w w' := by
  have hconv := conv_two (v / 256) (v % 256) (by omega) (by omega)
  rw [w16_conv v h0 h1] at hconv
  go_enter Try.func60, Try.ntmps60
  go_wp2
  go_ret
  exact ⟨rfl, (Below.refl _ _).alloc (Nat.le_refl _) _⟩
theorem impl_word16_out (v : Int) (w : World) (h : ¬ (0 ≤ v ∧ v ≤ 65535)) :
    Calls Try.prog 60 #[.int .i64 v] w fun e w' => e = .returned (.string ⟨#[]⟩) ∧ w = w' := by
  by_cases h0 : 0 ≤ v
  · have h1 : ¬ v ≤ 65535 := fun h1 => h ⟨h0, h1⟩
    clear h
    go_enter Try.func60, Try.ntmps60
    go_wp2
    go_ret
    exact ⟨rfl, rfl⟩
  · clear h
    go_enter Try.func60, Try.ntmps60
    go_wp2
    go_ret
    exact ⟨rfl, rfl⟩
theorem impl_word16 (v : Int) (w : World) : Calls Try.prog 60 #[.int .i64 v] w fun e w' => e = .returned (.string (word16V v)) ∧ Below w.heap.size w w' := by
  by_cases h : 0 ≤ v ∧ v ≤ 65535
  · rw [show word16V v = w16 v from if_pos h]; exact impl_word16_in v w h.1 h.2
  · rw [show word16V v = ⟨#[]⟩ from if_neg h]; exact (impl_word16_out v w h).mono fun _ _ hh => ⟨hh.1, hh.2 ▸ Below.refl _ _⟩

theorem impl_word32_in (v : Int) (w : World) (h0 : 0 ≤ v) (h1 : v ≤ 4294967295) :
    Calls Try.prog 74 #[.int .i64 v] w fun e w' => e = .returned (.string (w32 v)) ∧ Below w.heap.size w w' := by
  have e1 := and_16 v h0 (by omega)
  have HW := Lib.hid (w32_two v)
  have z2 : (w16 (v / 65536)).size ≤ 2 := Nat.le_refl _
  have z3 : (w16 (v % 65536)).size ≤ 2 := Nat.le_refl _
  go_enter Try.func74, Try.ntmps74
  go_wp2_with (go_at_call 63; refine (impl_within_yes _ _ _ _ ⟨h0, h1⟩).mono ?_; rintro e w' ⟨rfl, rfl⟩)
  refine (impl_word16_in (v / 65536) _ (by omega) (by omega)).mono ?_
  rintro e w1 ⟨rfl, hb1⟩
  go_wp2_with fail
  refine (impl_word16_in (v % 65536) _ (by omega) (by omega)).mono ?_
  rintro e w2 ⟨rfl, hb2⟩
  go_wp2
  go_ret
  exact ⟨by rw [HW.out]; rfl, hb1.trans (hb2.mono hb1.size)⟩
theorem impl_word32_out (v : Int) (w : World) (h : ¬ (0 ≤ v ∧ v ≤ 4294967295)) :
    Calls Try.prog 74 #[.int .i64 v] w fun e w' => e = .returned (.string ⟨#[]⟩) ∧ w = w' := by
  by_cases h0 : 0 ≤ v
  · have h1 : ¬ v ≤ 4294967295 := fun h1 => h ⟨h0, h1⟩
    clear h
    go_enter Try.func74, Try.ntmps74
    go_wp2
    go_ret
    exact ⟨rfl, rfl⟩
  · clear h
    go_enter Try.func74, Try.ntmps74
    go_wp2
    go_ret
    exact ⟨rfl, rfl⟩
theorem impl_word32 (v : Int) (w : World) : Calls Try.prog 74 #[.int .i64 v] w fun e w' => e = .returned (.string (word32V v)) ∧ Below w.heap.size w w' := by
  by_cases h : 0 ≤ v ∧ v ≤ 4294967295
  · rw [show word32V v = w32 v from if_pos h]; exact impl_word32_in v w h.1 h.2
  · rw [show word32V v = ⟨#[]⟩ from if_neg h]; exact (impl_word32_out v w h).mono fun _ _ hh => ⟨hh.1, hh.2 ▸ Below.refl _ _⟩

theorem impl_get16 (s : ByteArray) (p : Int) (w : World) (hs : s.size ≤ maxLen) (hp : -9223372036854775808 ≤ p ∧ p ≤ 9223372036854775807) :
    Calls Try.prog 86 #[.string s, .int .i64 p] w fun e w' => e = .returned (.int .i64 (get16 s p)) ∧ ∃ m, w' = w.drewN m := by
  unfold maxLen at hs
  by_cases h : 0 ≤ p ∧ p + 2 ≤ s.size
  · obtain ⟨n, rfl⟩ : ∃ n : Nat, p = n := ⟨p.toNat, by omega⟩
    have h1 : n + 1 < s.size := by omega
    have HG : Hid (get16 s n = (s[n].toNat : Int) * 256 + (s[n + 1].toNat : Int)) := Lib.hid (by rw [get16_in s n (by omega), byteI_at s n (by omega), byteI_at s (n + 1) h1])
    have b1 : s[n].toNat < 256 := UInt8.toNat_lt _
    have b2 : s[n + 1].toNat < 256 := UInt8.toNat_lt _
    have c1 : (n : Int) ≤ (s.size : Int) - 2 := by omega
    have c0 : (0 : Int) ≤ (n : Int) := by omega
    have eo := or_8 (s[n].toNat : Int) (s[n + 1].toNat : Int) (by omega) (by omega)
    go_enter Try.func86, Try.ntmps86
    have c3 : (n : Int) < (s.size : Int) := by omega
    have c4 : (n : Int) + 1 < (s.size : Int) := by omega
    have c5 : (0 : Int) ≤ (n : Int) + 1 := by omega
    have e1 : ((n : Int) + 1).toNat = n + 1 := by omega
    have e2 : IntKind.i64.wrap ((n : Int) + 1) = (n : Int) + 1 := wrap_in _ (by omega) (by omega)
    have e3 : IntKind.i64.wrap (s[n].toNat : Int) = s[n].toNat := wrap_in _ (by omega) (by omega)
    have e4 : IntKind.i64.wrap (s[n + 1].toNat : Int) = s[n + 1].toNat := wrap_in _ (by omega) (by omega)
    go_wp2_with go_in
    go_quiet (fail)
    go_wp2
    go_ret
    exact ⟨by rw [HG.out]; rfl, _, rfl⟩
  · have HG := Lib.hid (get16_out s p h)
    by_cases h0 : 0 ≤ p
    · have h2 : ¬ p ≤ (s.size : Int) - 2 := by omega
      clear h
      go_enter Try.func86, Try.ntmps86
      go_wp2
      go_ret
      exact ⟨by rw [HG.out]; rfl, 0, rfl⟩
    · clear h
      go_enter Try.func86, Try.ntmps86
      go_wp2
      go_ret
      exact ⟨by rw [HG.out]; rfl, 0, rfl⟩
theorem impl_get16_any (s : ByteArray) (p : Int) (w : World) (hs : s.size ≤ maxLen) (hp : -9223372036854775808 ≤ p ∧ p ≤ 9223372036854775807) :
    Calls Try.prog 86 #[.string s, .int .i64 p] w fun e w' => e = .returned (.int .i64 (get16 s p)) ∧ Below w.heap.size w w' :=
  (impl_get16 s p w hs hp).mono fun _ _ ⟨h1, m, h2⟩ => ⟨h1, h2 ▸ below_of_drewN w m⟩

theorem impl_get32 (s : ByteArray) (p : Int) (w : World) (hs : s.size ≤ maxLen) (hp : -9223372036854775808 ≤ p ∧ p ≤ 9223372036854775807) :
    Calls Try.prog 99 #[.string s, .int .i64 p] w fun e w' => e = .returned (.int .i64 (get32 s p)) ∧ ∃ m, w' = w.drewN m := by
  have HM := Lib.hid hs
  unfold maxLen at hs
  by_cases h : 0 ≤ p ∧ p + 4 ≤ s.size
  · obtain ⟨n, rfl⟩ : ∃ n : Nat, p = n := ⟨p.toNat, by omega⟩
    have HG : Hid (get32 s n = get16 s n * 65536 + get16 s ((n : Int) + 2)) := Lib.hid (by unfold get32; rw [if_pos h])
    have b1 := get16_bd s n (by omega)
    have b2 := get16_bd s (n + 2) (by omega)
    rw [show ((n + 2 : Nat) : Int) = (n : Int) + 2 from by omega] at b2
    have eo := or_16 _ _ b1 b2
    have c0 : (0 : Int) ≤ (n : Int) := by omega
    have c1 : (n : Int) ≤ (s.size : Int) - 4 := by omega
    go_enter Try.func99, Try.ntmps99
    go_wp2_with (first
      | (go_at_call 86; with_reducible refine (impl_get16 _ _ _ HM.out (by omega)).mono ?_; rintro e w' ⟨rfl, m, rfl⟩)
      | go_in)
    go_ret
    exact ⟨by rw [HG.out]; rfl, _, rfl⟩
  · have HG : Hid (get32 s p = -1) := Lib.hid (by unfold get32; rw [if_neg h])
    by_cases h0 : 0 ≤ p
    · have h2 : ¬ p ≤ (s.size : Int) - 4 := by omega
      clear h
      go_enter Try.func99, Try.ntmps99
      go_wp2
      go_ret
      exact ⟨by rw [HG.out]; rfl, 0, rfl⟩
    · clear h
      go_enter Try.func99, Try.ntmps99
      go_wp2
      go_ret
      exact ⟨by rw [HG.out]; rfl, 0, rfl⟩
theorem impl_get32_any (s : ByteArray) (p : Int) (w : World) (hs : s.size ≤ maxLen) (hp : -9223372036854775808 ≤ p ∧ p ≤ 9223372036854775807) :
    Calls Try.prog 99 #[.string s, .int .i64 p] w fun e w' => e = .returned (.int .i64 (get32 s p)) ∧ Below w.heap.size w w' :=
  (impl_get32 s p w hs hp).mono fun _ _ ⟨h1, m, h2⟩ => ⟨h1, h2 ▸ below_of_drewN w m⟩

end Go.Proofs.Ytdlmplbhhgcffaa
