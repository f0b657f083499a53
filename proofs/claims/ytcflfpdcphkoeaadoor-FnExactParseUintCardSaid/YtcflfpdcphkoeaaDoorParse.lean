/- Contracts of ParseUint in the model: a numeral within the limit gives its number, another text is refused. -/
import Derived.Test.YtcflfpdcphkoeaaDoorFormat
import Derived.Test.YtcflfpdcphkoeaaDoorParseMath
namespace Go.Proofs.YtcflfpdcphkoeaaDoor
open Go.RowKit

set_option maxHeartbeats 1000000 in
set_option maxRecDepth 100000 in
theorem spec_parse_yes (s : ByteArray) (n : Nat) (w : World) (h : IsNum s n) :
    Calls Tryd.prog 20 #[.string s] w fun e w' => e = .returned (.tuple #[.int .i64 n, .bool true]) ∧ Below w.heap.size w w' := by
  have hl := h.len
  have hl' : ¬ (10 : Int) < s.size := by omega
  have HN := Lib.hid h
  clear h
  go_enter Tryd.func20, Tryd.ntmps20
  go_wp2
  go_loop [4, 5] (fun v i => ∃ k : Nat, k ≤ s.size ∧ i = .int .i64 k ∧ ∃ a : Nat, v = .int .i64 a ∧ a < 10000000000 ∧ Hid (a = valF 0 (s.data.toList.take k)) ∧ Hid (AllD (s.data.toList.take k)))
    (fun _ i => s.size - (intOf i).toNat)
  case atStart => exact ⟨0, Nat.zero_le _, rfl, 0, rfl, by omega, Lib.hid rfl, Lib.hid (by simp [AllD])⟩
  case round =>
    obtain ⟨k, hk, rfl, a, rfl, ha, HV, HD⟩ := hrel
    by_cases hlt : k < s.size
    · have hc := HN.out.all s[k] (by show s.data[k] ∈ _; simp)
      have c1 : 48 ≤ (s[k].toNat : Int) := by omega
      have c2 : (s[k].toNat : Int) ≤ 57 := by omega
      have HD1 := Lib.hid (allD_take s k hlt HD.out hc)
      have HV1 : Hid (10 * a + (s[k].toNat - 48) = valF 0 (s.data.toList.take (k + 1))) := Lib.hid (by rw [val_take s k hlt, ← HV.out])
      have HB : Hid (10 * a + (s[k].toNat - 48) < 10000000000) := Lib.hid (by rw [HV1.out]; exact val_lt _ 10 HD1.out (by simp; omega))
      clear hc
      go_wp2
      go_round
      case rel => exact ⟨k + 1, by omega, by go_num, 10 * a + (s[k].toNat - 48), by go_num, HB.out, HV1, HD1⟩
      case measure => simp [intOf]; omega
    · obtain rfl : k = s.size := by omega
      have e1 : a = n := by
        have := HV.out
        rw [List.take_of_length_le (by simp), HN.out.val] at this
        exact this
      subst e1
      have hn : (a : Int) ≤ 1000000000 := by have := HN.out.1; omega
      have HI : Hid ((⟨(Lib.itoa (a : Int)).toArray⟩ : ByteArray) = s) := Lib.hid (by rw [itoa_nat, HN.out.2])
      clear HV HD
      go_wp2_with (go_at_call 19; refine (spec_format (a : Int) _ (by omega) (by omega)).mono ?_; rw [HI.out]; rintro e w1 ⟨rfl, hb1⟩)
      go_ret2
      exact ⟨rfl, hb1⟩

set_option maxHeartbeats 1000000 in
set_option maxRecDepth 100000 in
theorem spec_parse_no (s : ByteArray) (w : World) (hs : s.size ≤ maxLen) (h : ∀ n, ¬ IsNum s n) :
    Calls Tryd.prog 20 #[.string s] w fun e w' => e = .returned (.tuple #[.int .i64 0, .bool false]) ∧ Below w.heap.size w w' := by
  unfold maxLen at hs
  have HN := Lib.hid h
  clear h
  by_cases hl : 10 < s.size
  · have hl' : (10 : Int) < s.size := by omega
    go_enter Tryd.func20, Tryd.ntmps20
    go_wp2
    go_ret2
    exact ⟨rfl, Below.refl _ _⟩
  have hl' : ¬ (10 : Int) < s.size := by omega
  go_enter Tryd.func20, Tryd.ntmps20
  go_wp2
  go_loop [4, 5] (fun v i => ∃ k : Nat, k ≤ s.size ∧ i = .int .i64 k ∧ ∃ a : Nat, v = .int .i64 a ∧ a < 10000000000 ∧ Hid (a = valF 0 (s.data.toList.take k)) ∧ Hid (AllD (s.data.toList.take k)))
    (fun _ i => s.size - (intOf i).toNat)
  case atStart => exact ⟨0, Nat.zero_le _, rfl, 0, rfl, by omega, Lib.hid rfl, Lib.hid (by simp [AllD])⟩
  case round =>
    obtain ⟨k, hk, rfl, a, rfl, ha, HV, HD⟩ := hrel
    by_cases hlt : k < s.size
    · by_cases c1 : 48 ≤ (s[k].toNat : Int)
      · by_cases c2 : (s[k].toNat : Int) ≤ 57
        · have HD1 := Lib.hid (allD_take s k hlt HD.out ⟨by omega, by omega⟩)
          have HV1 : Hid (10 * a + (s[k].toNat - 48) = valF 0 (s.data.toList.take (k + 1))) := Lib.hid (by rw [val_take s k hlt, ← HV.out])
          have HB : Hid (10 * a + (s[k].toNat - 48) < 10000000000) := Lib.hid (by rw [HV1.out]; exact val_lt _ 10 HD1.out (by simp; omega))
          go_wp2
          go_round
          case rel => exact ⟨k + 1, by omega, by go_num, 10 * a + (s[k].toNat - 48), by go_num, HB.out, HV1, HD1⟩
          case measure => simp [intOf]; omega
        · go_wp2
          go_ret2
          exact ⟨rfl, Below.refl _ _⟩
      · go_wp2
        go_ret2
        exact ⟨rfl, Below.refl _ _⟩
    · obtain rfl : k = s.size := by omega
      by_cases hn : (a : Int) ≤ 1000000000
      · obtain ⟨t, ht⟩ : ∃ t : ByteArray, t = ⟨(Lib.itoa (a : Int)).toArray⟩ := ⟨_, rfl⟩
        have hne : t ≠ s := fun e => HN.out a ⟨by omega, by rw [← e, ht, itoa_nat]⟩
        have HT := Lib.hid ht
        clear ht
        have hne1 := str_ne hne
        clear hne
        go_wp2_with (go_at_call 19; refine (spec_format (a : Int) _ (by omega) (by omega)).mono ?_; rw [← HT.out]; rintro e w1 ⟨rfl, hb1⟩)
        go_ret2
        exact ⟨rfl, hb1⟩
      · have hn' : (1000000000 : Int) < a := by omega
        go_wp2
        go_ret2
        exact ⟨rfl, Below.refl _ _⟩

end Go.Proofs.YtcflfpdcphkoeaaDoor
