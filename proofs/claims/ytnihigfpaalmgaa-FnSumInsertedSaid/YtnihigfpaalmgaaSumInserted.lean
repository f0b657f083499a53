/- The checksum of data of even length, put behind them, makes the sum of all words 65535: the law FnSumInserted returns true for every input, and its argument reads as before. No condition. -/
import Derived.Test.YtnihigfpaalmgaaBytesAnyImpl
import Derived.Test.YtnihigfpaalmgaaSumMath
import Derived.Test.YtnihigfpaalmgaaDataDraw
import Derived.OpenShut
import Derived.ShutString
import Derived.ChangeOld
namespace Go.Proofs.Ytnihigfpaalmgaa.fnSumInserted
open Go.ChangeShapes Go.WideShapes Go.ChangeAt Go.RowKit
open Go.ChangeMaps (open_string shut_string)
set_option linter.unusedVariables false

theorem own : ownKnob Try.prog.godebug = none := by kernel_rfl
theorem laidOut : laidOutB Try.prog = true := by kernel_rfl

set_option maxHeartbeats 2000000 in
set_option maxRecDepth 100000 in
theorem walk (w : World) (a0 : Option Addr) (len0 cap0 : Nat) (z0 : List Int) (h : IsRow .u8 w a0 len0 cap0 z0) :
    Calls Try.prog 3 #[.slice a0 len0 cap0] w fun e w' => e = .returned (.bool true) ∧ Below w.heap.size w w' := by
  by_cases hbig : len0 ≤ 1048576
  · have HC := Lib.hid (Code.of_row h hbig)
    clear h
    go_enter Try.func3, Try.ntmps3
    go_wp2_with fail
    refine (big_no _ _ _ _ hbig).mono ?_
    rintro e w' ⟨rfl, rfl⟩
    go_wp2_with fail
    refine (draw_data a0 len0 cap0 _ HC.out).mono ?_
    rintro e w1 ⟨s0, hs0, rfl, hb1⟩
    by_cases hodd : s0.size % 2 = 1
    · have h1 : (s0.size : Int) % 2 = 1 := by omega
      have hsz : (s0 ++ ⟨#[120]⟩).size = s0.size + 1 := by rw [ByteArray.size_append]; rfl
      have HE : RowKit.Hid ((s0 ++ ⟨#[120]⟩).size % 2 = 0) := Lib.hid (by omega)
      have HZ : RowKit.Hid ((s0 ++ ⟨#[120]⟩).size ≤ 41) := Lib.hid (by omega)
      clear hodd hsz
      go_wp2_with fail
      clear h1
      generalize s0 ++ ⟨#[120]⟩ = s at HE HZ
      have hz := HZ.out
      refine (impl_checksum_any s _ (by omega)).mono ?_
      rintro e w2 ⟨rfl, hb2⟩
      have hb12 := hb1.trans (hb2.mono hb1.size)
      have hsb := sumW_bd s
      obtain ⟨x, hx⟩ : ∃ x, x = 65535 - sumW s := ⟨_, rfl⟩
      have x0 : 0 ≤ x ∧ x ≤ 65535 := by omega
      have HX := Lib.hid hx
      rw [← hx]
      have HS : RowKit.Hid (sumW s = 65535 - x) := Lib.hid (by omega)
      clear hx hsb
      obtain ⟨x1, x2⟩ := x0
      have HW : RowKit.Hid (word16V x = w16 x) := Lib.hid (if_pos ⟨x1, x2⟩)
      go_wp2_with fail
      refine (impl_word16 x _).mono ?_
      rw [HW.out]
      rintro e w3 ⟨rfl, hb3⟩
      have hb13 := hb12.trans (hb3.mono hb12.size)
      have hz2 : (w16 x).size ≤ 2 := Nat.le_refl _
      go_wp2_with fail
      have hts : (s ++ w16 x).size = s.size + 2 := by rw [ByteArray.size_append]; rfl
      have HT : RowKit.Hid (sumW (s ++ w16 x) = 65535) := Lib.hid (by rw [HX.out]; exact sum_insert s HE.out)
      have HG : RowKit.Hid (get16 (s ++ w16 x) s.size = x) := Lib.hid (get_insert s x ⟨x1, x2⟩)
      have HTS : RowKit.Hid (((s ++ w16 x).size : Int) = (s.size : Int) + 2) := Lib.hid (by omega)
      have ht2 : (s ++ w16 x).size ≤ 43 := by omega
      clear hts
      generalize s ++ w16 x = t at HT HG HTS ht2 ⊢
      refine (impl_sum_any t _ (by omega)).mono ?_
      rw [HT.out]
      rintro e w4 ⟨rfl, hb4⟩
      have hb14 := hb13.trans (hb4.mono hb13.size)
      go_wp2_with fail
      refine (impl_get16_any t _ _ (by unfold maxLen; omega) (by omega)).mono ?_
      rw [HG.out]
      rintro e w5 ⟨rfl, hb5⟩
      have hb15 := hb14.trans (hb5.mono hb14.size)
      go_wp2_with fail
      refine (impl_sum_any s _ (by omega)).mono ?_
      rw [HS.out]
      rintro e w6 ⟨rfl, hb6⟩
      have hb16 := hb15.trans (hb6.mono hb15.size)
      have hf := HTS.out
      go_wp2
      go_ret
      exact ⟨rfl, hb16⟩
    · have h1 : (s0.size : Int) % 2 = 0 := by omega
      have HE : RowKit.Hid (s0.size % 2 = 0) := Lib.hid (by omega)
      have HZ : RowKit.Hid (s0.size ≤ 41) := Lib.hid (by omega)
      clear hodd
      go_wp2_with fail
      clear h1 hs0
      generalize s0 = s at HE HZ
      have hz := HZ.out
      refine (impl_checksum_any s _ (by omega)).mono ?_
      rintro e w2 ⟨rfl, hb2⟩
      have hb12 := hb1.trans (hb2.mono hb1.size)
      have hsb := sumW_bd s
      obtain ⟨x, hx⟩ : ∃ x, x = 65535 - sumW s := ⟨_, rfl⟩
      have x0 : 0 ≤ x ∧ x ≤ 65535 := by omega
      have HX := Lib.hid hx
      rw [← hx]
      have HS : RowKit.Hid (sumW s = 65535 - x) := Lib.hid (by omega)
      clear hx hsb
      obtain ⟨x1, x2⟩ := x0
      have HW : RowKit.Hid (word16V x = w16 x) := Lib.hid (if_pos ⟨x1, x2⟩)
      go_wp2_with fail
      refine (impl_word16 x _).mono ?_
      rw [HW.out]
      rintro e w3 ⟨rfl, hb3⟩
      have hb13 := hb12.trans (hb3.mono hb12.size)
      have hz2 : (w16 x).size ≤ 2 := Nat.le_refl _
      go_wp2_with fail
      have hts : (s ++ w16 x).size = s.size + 2 := by rw [ByteArray.size_append]; rfl
      have HT : RowKit.Hid (sumW (s ++ w16 x) = 65535) := Lib.hid (by rw [HX.out]; exact sum_insert s HE.out)
      have HG : RowKit.Hid (get16 (s ++ w16 x) s.size = x) := Lib.hid (get_insert s x ⟨x1, x2⟩)
      have HTS : RowKit.Hid (((s ++ w16 x).size : Int) = (s.size : Int) + 2) := Lib.hid (by omega)
      have ht2 : (s ++ w16 x).size ≤ 43 := by omega
      clear hts
      generalize s ++ w16 x = t at HT HG HTS ht2 ⊢
      refine (impl_sum_any t _ (by omega)).mono ?_
      rw [HT.out]
      rintro e w4 ⟨rfl, hb4⟩
      have hb14 := hb13.trans (hb4.mono hb13.size)
      go_wp2_with fail
      refine (impl_get16_any t _ _ (by unfold maxLen; omega) (by omega)).mono ?_
      rw [HG.out]
      rintro e w5 ⟨rfl, hb5⟩
      have hb15 := hb14.trans (hb5.mono hb14.size)
      go_wp2_with fail
      refine (impl_sum_any s _ (by omega)).mono ?_
      rw [HS.out]
      rintro e w6 ⟨rfl, hb6⟩
      have hb16 := hb15.trans (hb6.mono hb15.size)
      have hf := HTS.out
      go_wp2
      go_ret
      exact ⟨rfl, hb16⟩
  · clear h
    go_enter Try.func3, Try.ntmps3
    go_wp2_with fail
    refine (big_yes _ _ _ _ (by omega)).mono ?_
    rintro e w' ⟨rfl, rfl⟩
    go_wp2
    go_ret
    exact ⟨rfl, Below.refl _ _⟩


set_option maxRecDepth 100000 in
theorem lifted (os : Os) (started : os.Started) (H : Type) (enc : TypeId × Value → H) :
    ReturnsInHanded {} Try.checked os 3 .any (Rows.fnSumInsertedSpec.pre6 enc Try.prog Try.f3 Rows.fnSumInsertedRow.domain false) (Rows.fnSumInsertedSpec.post enc Try.prog Try.f3 false true false false) := by
  refine returnsInHanded_of_change (C := Try.checked) own started (by kernel_rfl) Try.func3
    (ChangeSpec.witness6 (enc := enc) (C := Try.checked) false ⟨#[], #[.slice none 0 0], []⟩ 8 (by kernel_rfl) (by kernel_rfl) (by kernel_rfl) (by kernel_rfl)) ?_
  intro W base args ds gs before hval0 hW hcnd _
  have hval : ∀ (j : Nat) t v, Try.f3.params[j]? = some t → args[j]? = some v → Value.okWide Try.prog W .any base t v := hval0
  have hW' := hW
  obtain ⟨p, q, hA0, hV, rfl, hfz, hnd⟩ := hW
  have hA : DataW.TrodAll enc Try.prog W 0 (fun _ => true) true Try.f3.params.toList args.toList ds p := hA0
  rw [Try.params3] at hA hval
  obtain ⟨v0, vs0, d0, ds0, p0, q0, hargs, rfl, rfl, h0, r0⟩ := trodAll_cons hA
  obtain ⟨rfl, rfl, rfl⟩ := trodAll_nil r0
  obtain rfl : args = #[v0] := by cases args; simp_all
  obtain ⟨rfl, rfl⟩ := trodVars_none hV
  have lt0 : ∀ x ∈ p0, x.block < W.heap.size := by obtain ⟨m, hm⟩ := h0; exact DataW.trod_lt m _ _ _ hm
  have k0 := h0
  obtain ⟨a0, len0, cap0, rfl⟩ := okWide_slice Try.underlying22 (hval 0 22 v0 rfl rfl)
  obtain ⟨z0, w0⟩ : ∃ zs, IsRow .u8 W a0 len0 cap0 zs := by
    obtain ⟨fuel, hf⟩ := h0
    rcases open_ints Try.underlying22 Try.underlying5 (by kernel_rfl) hf with ⟨hcs, _⟩ | ⟨x, l, c, zs, hcs, _, hl, hm, hz, _, hcell, hwz⟩
    · simp [Value.cells] at hcs
      obtain ⟨rfl, rfl, rfl⟩ := hcs
      exact ⟨[], .inl ⟨rfl, rfl, rfl, rfl⟩⟩
    · simp [Value.cells] at hcs
      obtain ⟨rfl, rfl, rfl⟩ := hcs
      exact ⟨zs, .inr ⟨_, rfl, hl, hm, by simpa using hz, hcell, hwz⟩⟩
  clear hA0 hval0
  refine (walk W a0 len0 cap0 z0 w0).mono fun e W' ⟨he, bel⟩ => ?_
  subst he
  exact ⟨_, rfl, _, _, _, [], _, [], hW', trodAll_mk1 (shut_bool Try.underlying4 _), (trodAll_cons_mk (Below.trod laidOut (by kernel_rfl) (of_decide_eq_true (by kernel_rfl)) k0 bel lt0) trodAll_mk0), rfl, bel.frame _, fun h => by cases h⟩

theorem over : Rows.fnSumInsertedRow.holds Try.pinned (OpenSpec.ofChange Rows.fnSumInsertedSpec) :=
  OpenClaim.holds_of_wide 3 Try.f3 rfl rfl rfl rfl rfl rfl rfl ⟨rfl, rfl, rfl, rfl, rfl⟩ rfl rfl rfl rfl rfl (by kernel_rfl) Try.func3 (by kernel_rfl)
    (of_decide_eq_true (by kernel_rfl)) (by unfold Func.isWrapper; first | (rw [if_pos (by decide +kernel)]; kernel_rfl) | (rw [if_neg (by decide +kernel)]; exact ⟨rfl, rfl⟩))
    (fun os started H enc _ => lifted os started H enc)

/-- The statement. -/
theorem proved : Rows.FnSumInsertedSaid := over

end Go.Proofs.Ytnihigfpaalmgaa.fnSumInserted
