/- Contracts of FormatInt and ParseUint in the program. -/
import Derived.Test.YtcflfpdcphkoeaaDoorParse
import Derived.Test.YtcflfpdcphkoeaaDoorDoorBase
import Derived.Test.YtcflfpdcphkoeaaDoorShelf
import Derived.Test.YtcflfpdcphkoeaaDoorShelfA
import Derived.Lib.ConvBytes
namespace Go.Proofs.YtcflfpdcphkoeaaDoor
open Go.RowKit
open Go.Sort (grow)

theorem impl_format (n : Int) (w : World) (h0 : -9223372036854775808 ≤ n) (h1 : n ≤ 9223372036854775807) (htab : Lib.TabIs Tryd.prog w "internal/strconv.uint64pow10" .u64 Lib.pow10Tab) :
    Calls Tryd.prog 11 #[.int .i64 n] w fun e w' => e = .returned (.string ⟨(Lib.itoa n).toArray⟩) ∧ Below w.heap.size w w' := by
  have HT := Lib.hid htab
  clear htab
  go_enter Tryd.func11, Tryd.ntmps11
  go_wp2_with fail
  refine (Tryd.strconv_Itoa n h0 h1 _ HT.out).mono ?_
  rintro e w' ⟨rfl, k, os, rfl⟩
  have hb := below_grow w k os
  generalize grow (w.drewN k) os = w1 at hb ⊢
  go_wp2
  go_ret
  exact ⟨rfl, hb⟩

theorem below_bytes (w : World) (e : TypeId) (t : ByteArray) : Below w.heap.size w (Lib.bytesWorld w e t) :=
  ⟨rfl, rfl, rfl, by rw [Lib.bytesWorld_size]; omega, fun j hj => Lib.bytesWorld_at_old w e t j hj⟩

theorem atoi_ok (s : ByteArray) (v : Int) (w : World) (hs : s.size ≤ 1048576) (h : Lib.atoiAll s.data.toList = .ok v) :
    Calls Tryd.prog 29 #[.string s] w fun e w' => e = .returned (.tuple #[.int .i64 v, .nilIface]) ∧ Below w.heap.size w w' := by
  refine (Tryd.strconv_Atoi_ok s (by omega) v h w).mono ?_
  rintro e w' ⟨rfl, rfl | ⟨t, rfl⟩⟩
  · exact ⟨rfl, Below.refl _ _⟩
  · exact ⟨rfl, below_bytes _ _ _⟩

set_option maxHeartbeats 1000000 in
set_option maxRecDepth 100000 in
theorem impl_parse_yes (s : ByteArray) (n : Nat) (w : World) (h : IsNum s n) (htab : Lib.TabIs Tryd.prog w "internal/strconv.uint64pow10" .u64 Lib.pow10Tab) :
    Calls Tryd.prog 14 #[.string s] w fun e w' => e = .returned (.tuple #[.int .i64 n, .bool true]) ∧ Below w.heap.size w w' := by
  have hl := h.len
  have hn : (n : Int) ≤ 1000000000 := by have := h.1; omega
  have HN := Lib.hid h
  have HT := Lib.hid htab
  have HI : Hid ((⟨(Lib.itoa (n : Int)).toArray⟩ : ByteArray) = s) := Lib.hid (by rw [itoa_nat, HN.out.2])
  clear h htab
  go_enter Tryd.func14, Tryd.ntmps14
  go_wp2_with fail
  refine (atoi_ok s n _ (by omega) HN.out.atoi).mono ?_
  rintro e w1 ⟨rfl, hb1⟩
  go_wp2_with fail
  refine (impl_format (n : Int) _ (by omega) (by omega) (Joins.tab_stays gPow HT.out hb1 (Nat.le_refl _))).mono ?_
  rw [HI.out]
  rintro e w2 ⟨rfl, hb2⟩
  go_wp2
  go_ret2
  exact ⟨rfl, hb1.trans (hb2.mono hb1.size)⟩

set_option maxHeartbeats 1000000 in
set_option maxRecDepth 100000 in
theorem impl_parse_no (s : ByteArray) (w : World) (hs : s.size ≤ 1048576) (h : ∀ n, ¬ IsNum s n) (htab : Lib.TabIs Tryd.prog w "internal/strconv.uint64pow10" .u64 Lib.pow10Tab)
    (her : (∃ tp p, w.var? Tryd.prog "strconv.ErrRange" = some #[.iface tp p]) ∧ (∃ tp p, w.var? Tryd.prog "strconv.ErrSyntax" = some #[.iface tp p])) :
    Calls Tryd.prog 14 #[.string s] w fun e w' => e = .returned (.tuple #[.int .i64 0, .bool false]) ∧ Below w.heap.size w w' := by
  obtain ⟨⟨tr, pr, hr⟩, ⟨ts, ps, hsy⟩⟩ := her
  have HN := Lib.hid h
  have HT := Lib.hid htab
  have HR := Lib.hid hr
  have HS := Lib.hid hsy
  clear h htab hr hsy
  rcases ha : Lib.atoiAll s.data.toList with v | _ | _
  · have HA := Lib.hid ha
    clear ha
    by_cases v0 : v < 0
    · go_enter Tryd.func14, Tryd.ntmps14
      go_wp2_with fail
      refine (atoi_ok s v _ hs HA.out).mono ?_
      rintro e w1 ⟨rfl, hb1⟩
      go_wp2
      go_ret2
      exact ⟨rfl, hb1⟩
    · by_cases v1 : 1000000000 < v
      · go_enter Tryd.func14, Tryd.ntmps14
        go_wp2_with fail
        refine (atoi_ok s v _ hs HA.out).mono ?_
        rintro e w1 ⟨rfl, hb1⟩
        go_wp2
        go_ret2
        exact ⟨rfl, hb1⟩
      · obtain ⟨t, ht⟩ : ∃ t : ByteArray, t = ⟨(Lib.itoa v).toArray⟩ := ⟨_, rfl⟩
        have hne : t ≠ s := fun e => HN.out v.toNat ⟨by omega, by rw [← e, ht, ← itoa_nat, Int.toNat_of_nonneg (by omega)]⟩
        have HI := Lib.hid ht
        have hne1 := str_ne hne
        clear ht hne
        go_enter Tryd.func14, Tryd.ntmps14
        go_wp2_with fail
        refine (atoi_ok s v _ hs HA.out).mono ?_
        rintro e w1 ⟨rfl, hb1⟩
        go_wp2_with fail
        refine (impl_format v _ (by omega) (by omega) (Joins.tab_stays gPow HT.out hb1 (Nat.le_refl _))).mono ?_
        rw [← HI.out]
        rintro e w2 ⟨rfl, hb2⟩
        go_wp2
        go_ret2
        exact ⟨rfl, hb1.trans (hb2.mono hb1.size)⟩
  · go_enter Tryd.func14, Tryd.ntmps14
    go_wp2_with fail
    refine (Tryd.strconv_Atoi_syntax_var s (by omega) ha ts ps _ HS.out).mono ?_
    rintro e w1 ⟨N, rfl, _, _, hb1⟩
    clear ha
    go_wp2
    go_ret2
    exact ⟨rfl, hb1⟩
  · go_enter Tryd.func14, Tryd.ntmps14
    go_wp2_with fail
    refine (Tryd.strconv_Atoi_range_var s (by omega) ha tr pr _ HR.out).mono ?_
    rintro e w1 ⟨N, rfl, _, _, hb1⟩
    clear ha
    go_wp2
    go_ret2
    exact ⟨rfl, hb1⟩

end Go.Proofs.YtcflfpdcphkoeaaDoor
