/- A checksum that is updated for a changed word is the one of the changed data, unless these are all zero: the law FnSumUpdated returns true for every input, and its argument reads as before. No condition. -/
import Derived.Test.YtnihigfpaalmgaaBytesAnySpec
import Derived.Test.YtnihigfpaalmgaaBytesAnyImpl
import Derived.Test.YtnihigfpaalmgaaPutMath
import Derived.Test.YtnihigfpaalmgaaDataDraw
import Derived.OpenShut
import Derived.ShutString
import Derived.ChangeOld
namespace Go.Proofs.Ytnihigfpaalmgaa.fnSumUpdated
open Go.ChangeShapes Go.WideShapes Go.ChangeAt Go.RowKit
open Go.ChangeMaps (open_string shut_string)
set_option linter.unusedVariables false

theorem own : ownKnob Try.prog.godebug = none := by kernel_rfl
theorem laidOut : laidOutB Try.prog = true := by kernel_rfl

set_option maxHeartbeats 2000000 in
set_option maxRecDepth 100000 in
theorem walk (w : World) (a0 : Option Addr) (len0 cap0 : Nat) (z0 : List Int) (h : IsRow .u8 w a0 len0 cap0 z0) :
    Calls Try.prog 4 #[.slice a0 len0 cap0] w fun e w' => e = .returned (.bool true) ∧ Below w.heap.size w w' := by
  by_cases hbig : len0 ≤ 1048576
  · have HC := Lib.hid (Code.of_row h hbig)
    clear h
    go_enter Try.func4, Try.ntmps4
    go_wp2_with fail
    refine (big_no _ _ _ _ hbig).mono ?_
    rintro e w' ⟨rfl, rfl⟩
    go_wp2_with fail
    refine (draw_data a0 len0 cap0 _ HC.out).mono ?_
    rintro e w1 ⟨s0, hs0, rfl, hb1⟩
    have HC1 := Lib.hid (HC.out.below hb1)
    have hsz : (s0 ++ ⟨#[97, 98]⟩).size = s0.size + 2 := by rw [ByteArray.size_append]; rfl
    have h2 : 2 ≤ (s0 ++ ⟨#[97, 98]⟩).size := by omega
    have h42 : (s0 ++ ⟨#[97, 98]⟩).size ≤ 42 := by omega
    clear hsz
    go_wp2_with fail
    generalize s0 ++ ⟨#[97, 98]⟩ = s at h2 h42 ⊢
    refine (at_any _ 0 a0 len0 cap0 _ HC1.out (by omega)).mono ?_
    rintro e w' ⟨x, ⟨x0, x1⟩, rfl, rfl⟩
    obtain ⟨m, hm⟩ : ∃ m : Int, m = (s.size : Int) / 2 := ⟨_, rfl⟩
    have m1 : 0 < m := by omega
    have hmm := Int.emod_nonneg x (show m ≠ 0 by omega)
    have hml := Int.emod_lt_of_pos x m1
    obtain ⟨K, hK⟩ : ∃ K : Nat, x % m * 2 = (K : Int) := ⟨(x % m * 2).toNat, by omega⟩
    have HK : RowKit.Hid (K % 2 = 0) := Lib.hid (by omega)
    have hK2 : K + 2 ≤ s.size := by omega
    have hq : 0 < (s.size : Int) / 2 := by omega
    rw [hm] at hK
    clear hm m1 hmm hml
    go_wp2_with fail
    clear hK
    refine (at_any _ 1 a0 len0 cap0 _ HC1.out (by omega)).mono ?_
    rintro e w' ⟨y, ⟨y0, y1⟩, rfl, rfl⟩
    go_wp2_with fail
    refine (at_any _ 2 a0 len0 cap0 _ HC1.out (by omega)).mono ?_
    rintro e w' ⟨z, ⟨z0, z1⟩, rfl, rfl⟩
    obtain ⟨a, ha⟩ : ∃ a : Nat, y * 256 + z = (a : Int) := ⟨(y * 256 + z).toNat, by omega⟩
    have ha2 : a ≤ 65535 := by omega
    have HW : RowKit.Hid (word16V (a : Int) = w16 a) := Lib.hid (if_pos ⟨by omega, by omega⟩)
    go_wp2_with fail
    clear ha
    obtain ⟨law0, law1⟩ := upd_law s K a hK2 HK.out ha2
    obtain ⟨t, ht⟩ : ∃ t, t = put s K (w16 a) := ⟨_, rfl⟩
    have htz : t.size = s.size := by rw [ht]; exact put_size s _ K hK2
    have HG : RowKit.Hid (get16 t K = a) := Lib.hid (by rw [ht]; exact get16_put s K a hK2 ⟨by omega, by omega⟩)
    have HT := Lib.hid ht
    rw [← ht] at law0 law1
    have L0 := Lib.hid law0
    have L1 := Lib.hid law1
    have HTZ := Lib.hid htz
    have gb := get16_bd s K hK2
    have hw2 : (w16 a).size ≤ 2 := Nat.le_refl _
    clear ht law0 law1 htz
    refine (impl_word16 (a : Int) _).mono ?_
    rw [HW.out]
    rintro e w2 ⟨rfl, hb2⟩
    have hb12 := hb1.trans (hb2.mono hb1.size)
    go_wp2_with fail
    refine (impl_put_any s K (w16 a) _ (by omega) (by omega) (by omega)).mono ?_
    rw [← HT.out]
    rintro e w3 ⟨rfl, hb3⟩
    have hb13 := hb12.trans (hb3.mono hb12.size)
    go_wp2_with fail
    refine (impl_get16_any s K _ (by unfold maxLen; omega) (by omega)).mono ?_
    rintro e w4 ⟨rfl, hb4⟩
    have hb14 := hb13.trans (hb4.mono hb13.size)
    obtain ⟨bf, hbf⟩ : ∃ bf, bf = get16 s K := ⟨_, rfl⟩
    rw [← hbf] at gb ⊢
    have HBF := Lib.hid hbf
    clear hbf
    have htz : (t.size : Int) = s.size := by have := HTZ.out; omega
    have ht42 : t.size ≤ 42 := by omega
    go_wp2_with fail
    clear htz
    refine (spec_sum_any t _ (by omega)).mono ?_
    rintro e w5 ⟨rfl, hb5⟩
    have hb15 := hb14.trans (hb5.mono hb14.size)
    have tb := sumW_bd t
    obtain ⟨T, hT⟩ : ∃ T, T = sumW t := ⟨_, rfl⟩
    have HTT := Lib.hid hT
    rw [← hT] at tb ⊢
    clear hT
    by_cases h0 : T = 0
    · have ha0 : RowKit.Hid (a = 0) := Lib.hid (L0.out (by rw [← HTT.out]; exact h0))
      subst h0
      go_wp2_with fail
      refine (impl_get16_any t K _ (by unfold maxLen; omega) (by omega)).mono ?_
      rw [HG.out, ha0.out]
      rintro e w6 ⟨rfl, hb6⟩
      go_wp2
      go_ret
      exact ⟨rfl, hb15.trans (hb6.mono hb15.size)⟩
    · have HU : RowKit.Hid (updS (65535 - sumW s) bf a = 65535 - T) := Lib.hid (by rw [HBF.out, HTT.out]; exact L1.out (by rw [← HTT.out]; exact h0))
      have h0' : (T == 0) = false := by simpa using h0
      have sb := sumW_bd s
      clear h0
      go_wp2_with fail
      refine (impl_checksum_any s _ (by omega)).mono ?_
      rintro e w6 ⟨rfl, hb6⟩
      have hb16 := hb15.trans (hb6.mono hb15.size)
      go_wp2_with fail
      refine (impl_update_any _ _ _ _ (by omega) (by omega) (by omega)).mono ?_
      rw [HU.out]
      rintro e w7 ⟨rfl, hb7⟩
      have hb17 := hb16.trans (hb7.mono hb16.size)
      go_wp2_with fail
      refine (impl_checksum_any t _ (by omega)).mono ?_
      rw [← HTT.out]
      rintro e w8 ⟨rfl, hb8⟩
      go_wp2
      go_ret
      exact ⟨rfl, hb17.trans (hb8.mono hb17.size)⟩
  · clear h
    go_enter Try.func4, Try.ntmps4
    go_wp2_with fail
    refine (big_yes _ _ _ _ (by omega)).mono ?_
    rintro e w' ⟨rfl, rfl⟩
    go_wp2
    go_ret
    exact ⟨rfl, Below.refl _ _⟩


set_option maxRecDepth 100000 in
theorem lifted (os : Os) (started : os.Started) (H : Type) (enc : TypeId × Value → H) :
    ReturnsInHanded {} Try.checked os 4 .any (Rows.fnSumUpdatedSpec.pre6 enc Try.prog Try.f4 Rows.fnSumUpdatedRow.domain false) (Rows.fnSumUpdatedSpec.post enc Try.prog Try.f4 false true false false) := by
  refine returnsInHanded_of_change (C := Try.checked) own started (by kernel_rfl) Try.func4
    (ChangeSpec.witness6 (enc := enc) (C := Try.checked) false ⟨#[], #[.slice none 0 0], []⟩ 8 (by kernel_rfl) (by kernel_rfl) (by kernel_rfl) (by kernel_rfl)) ?_
  intro W base args ds gs before hval0 hW hcnd _
  have hval : ∀ (j : Nat) t v, Try.f4.params[j]? = some t → args[j]? = some v → Value.okWide Try.prog W .any base t v := hval0
  have hW' := hW
  obtain ⟨p, q, hA0, hV, rfl, hfz, hnd⟩ := hW
  have hA : DataW.TrodAll enc Try.prog W 0 (fun _ => true) true Try.f4.params.toList args.toList ds p := hA0
  rw [Try.params4] at hA hval
  obtain ⟨v0, vs0, d0, ds0, p0, q0, hargs, rfl, rfl, h0, r0⟩ := trodAll_cons hA
  obtain ⟨rfl, rfl, rfl⟩ := trodAll_nil r0
  obtain rfl : args = #[v0] := by cases args; simp_all
  obtain ⟨rfl, rfl⟩ := trodVars_none hV
  have lt0 : ∀ x ∈ p0, x.block < W.heap.size := by obtain ⟨m, hm⟩ := h0; exact DataW.trod_lt m _ _ _ hm
  have k0 := h0
  obtain ⟨a0, len0, cap0, rfl⟩ := okWide_slice Try.underlying22 (hval 0 22 v0 rfl rfl)
  obtain ⟨z0, w0⟩ : ∃ zs, IsRow .u8 W a0 len0 cap0 zs := by
    obtain ⟨fuel, hf⟩ := h0
    rcases open_ints Try.underlying22 Try.underlying5 (by kernel_rfl) hf with ⟨hcs, _⟩ | ⟨x, l, c, zs, hcs, _, hl, hm, hz, _, hcell, hwz⟩
    · simp [Value.cells] at hcs
      obtain ⟨rfl, rfl, rfl⟩ := hcs
      exact ⟨[], .inl ⟨rfl, rfl, rfl, rfl⟩⟩
    · simp [Value.cells] at hcs
      obtain ⟨rfl, rfl, rfl⟩ := hcs
      exact ⟨zs, .inr ⟨_, rfl, hl, hm, by simpa using hz, hcell, hwz⟩⟩
  clear hA0 hval0
  refine (walk W a0 len0 cap0 z0 w0).mono fun e W' ⟨he, bel⟩ => ?_
  subst he
  exact ⟨_, rfl, _, _, _, [], _, [], hW', trodAll_mk1 (shut_bool Try.underlying4 _), (trodAll_cons_mk (Below.trod laidOut (by kernel_rfl) (of_decide_eq_true (by kernel_rfl)) k0 bel lt0) trodAll_mk0), rfl, bel.frame _, fun h => by cases h⟩

theorem over : Rows.fnSumUpdatedRow.holds Try.pinned (OpenSpec.ofChange Rows.fnSumUpdatedSpec) :=
  OpenClaim.holds_of_wide 4 Try.f4 rfl rfl rfl rfl rfl rfl rfl ⟨rfl, rfl, rfl, rfl, rfl⟩ rfl rfl rfl rfl rfl (by kernel_rfl) Try.func4 (by kernel_rfl)
    (of_decide_eq_true (by kernel_rfl)) (by unfold Func.isWrapper; first | (rw [if_pos (by decide +kernel)]; kernel_rfl) | (rw [if_neg (by decide +kernel)]; exact ⟨rfl, rfl⟩))
    (fun os started H enc _ => lifted os started H enc)

/-- The statement. -/
theorem proved : Rows.FnSumUpdatedSaid := over

end Go.Proofs.Ytnihigfpaalmgaa.fnSumUpdated
