/- Numbers written into data are read back, and what was there can be put back: the law FnWords returns true for every input, and its argument reads as before. No condition. -/
import Derived.Test.YtnihigfpaalmgaaBytesAnySpec
import Derived.Test.YtnihigfpaalmgaaBytesAnyImpl
import Derived.Test.YtnihigfpaalmgaaWordsMath
import Derived.Test.YtnihigfpaalmgaaDataDraw
import Derived.Laws.DeepStrings4
import Derived.OpenShut
import Derived.ShutString
import Derived.ChangeOld
namespace Go.Proofs.Ytnihigfpaalmgaa.fnWords
open Go.ChangeShapes Go.WideShapes Go.ChangeAt Go.RowKit
open Go.ChangeMaps (open_string shut_string)
set_option linter.unusedVariables false

theorem own : ownKnob Try.prog.godebug = none := by kernel_rfl
theorem laidOut : laidOutB Try.prog = true := by kernel_rfl

set_option maxHeartbeats 2000000 in
set_option maxRecDepth 100000 in
theorem walk (w : World) (a0 : Option Addr) (len0 cap0 : Nat) (z0 : List Int) (h : IsRow .u8 w a0 len0 cap0 z0) :
    Calls Try.prog 5 #[.slice a0 len0 cap0] w fun e w' => e = .returned (.bool true) ∧ Below w.heap.size w w' := by
  by_cases hbig : len0 ≤ 1048576
  · have HC := Lib.hid (Code.of_row h hbig)
    clear h
    go_enter Try.func5, Try.ntmps5
    go_wp2_with fail
    refine (big_no _ _ _ _ hbig).mono ?_
    rintro e w' ⟨rfl, rfl⟩
    go_wp2_with fail
    refine (draw_data a0 len0 cap0 _ HC.out).mono ?_
    rintro e w1 ⟨s0, hs0, rfl, hb1⟩
    have HC1 := Lib.hid (HC.out.below hb1)
    have hsz : (s0 ++ ⟨#[97, 98, 99, 100, 101, 102]⟩).size = s0.size + 6 := by rw [ByteArray.size_append]; rfl
    have h2 : 6 ≤ (s0 ++ ⟨#[97, 98, 99, 100, 101, 102]⟩).size := by omega
    have h42 : (s0 ++ ⟨#[97, 98, 99, 100, 101, 102]⟩).size ≤ 46 := by omega
    clear hsz
    go_wp2_with fail
    generalize s0 ++ ⟨#[97, 98, 99, 100, 101, 102]⟩ = s at h2 h42 ⊢
    refine (at_any _ 0 a0 len0 cap0 _ HC1.out (by omega)).mono ?_
    rintro e w' ⟨x, ⟨x0, x1⟩, rfl, rfl⟩
    have hq : 0 < (s.size : Int) - 3 := by omega
    have hmm := Int.emod_nonneg x (show (s.size : Int) - 3 ≠ 0 by omega)
    have hml := Int.emod_lt_of_pos x hq
    obtain ⟨K, hK⟩ : ∃ K : Nat, x % ((s.size : Int) - 3) = (K : Int) := ⟨(x % ((s.size : Int) - 3)).toNat, by omega⟩
    have hK4 : K + 4 ≤ s.size := by omega
    clear hmm hml
    go_wp2_with fail
    rw [hK]
    clear hK hq
    refine (at_any _ 1 a0 len0 cap0 _ HC1.out (by omega)).mono ?_
    rintro e w' ⟨y, ⟨y0, y1⟩, rfl, rfl⟩
    go_wp2_with fail
    refine (at_any _ 2 a0 len0 cap0 _ HC1.out (by omega)).mono ?_
    rintro e w' ⟨z, ⟨z0, z1⟩, rfl, rfl⟩
    obtain ⟨v, hv⟩ : ∃ v : Int, y * 256 + z = v := ⟨_, rfl⟩
    have v0 : 0 ≤ v := by omega
    have v1 : v ≤ 65535 := by omega
    go_wp2_with fail
    clear hv
    refine (at_any _ 3 a0 len0 cap0 _ HC1.out (by omega)).mono ?_
    rintro e w' ⟨r, ⟨r0, r1⟩, rfl, rfl⟩
    obtain ⟨q, hq⟩ : ∃ q : Int, v * 65536 + r = q := ⟨_, rfl⟩
    have q0 : 0 ≤ q := by omega
    have q1 : q ≤ 4294967295 := by omega
    have HQ : RowKit.Hid (q / 65536 = v) := Lib.hid (by omega)
    have HW : RowKit.Hid (word16V v = w16 v) := Lib.hid (if_pos ⟨v0, v1⟩)
    have HW2 : RowKit.Hid (word32V q = w32 q) := Lib.hid (if_pos ⟨q0, q1⟩)
    go_wp2_with fail
    clear hq
    have hw2 : (w16 v).size ≤ 2 := Nat.le_refl _
    have hw4 : (w32 q).size ≤ 4 := Nat.le_refl _
    refine (impl_word16 v _).mono ?_
    rw [HW.out]
    rintro e w2 ⟨rfl, hb2⟩
    have hb12 := hb1.trans (hb2.mono hb1.size)
    obtain ⟨t, ht⟩ : ∃ t, t = put s K (w16 v) := ⟨_, rfl⟩
    have htz : t.size ≤ 46 := by rw [ht, put_size s (w16 v) K (show K + 2 ≤ s.size by omega)]; omega
    have HG : RowKit.Hid (get16 t K = v) := Lib.hid (by rw [ht]; exact get16_put s K v (by omega) ⟨v0, v1⟩)
    have HT := Lib.hid ht
    obtain ⟨u, hu⟩ : ∃ u, u = put s K (w32 q) := ⟨_, rfl⟩
    have huz : u.size ≤ 46 := by rw [hu, put_size s (w32 q) K (show K + 4 ≤ s.size by omega)]; omega
    have HU := Lib.hid hu
    have HG2 : RowKit.Hid (get32 u K = q ∧ get16 u K = v) := Lib.hid (by
      rw [hu, ← HQ.out]; exact get32_put s K q hK4 ⟨q0, q1⟩)
    have HP : RowKit.Hid (put t K (s.extract K (K + 2)) = s) := Lib.hid (by rw [ht]; exact put_back s (w16 v) K (show K + 2 ≤ s.size by omega))
    have HA : RowKit.Hid (addS v (65535 - v) = 65535) := Lib.hid (by unfold addS; rw [if_pos (by omega), if_neg (by omega)]; omega)
    clear ht hu
    go_wp2_with fail
    refine (impl_put_any s K (w16 v) _ (by omega) (by omega) (by omega)).mono ?_
    rw [← HT.out]
    rintro e w3 ⟨rfl, hb3⟩
    have hb13 := hb12.trans (hb3.mono hb12.size)
    go_wp2_with fail
    refine (impl_word32 q _).mono ?_
    rw [HW2.out]
    rintro e w4 ⟨rfl, hb4⟩
    have hb14 := hb13.trans (hb4.mono hb13.size)
    go_wp2_with fail
    refine (impl_put_any s K (w32 q) _ (by omega) (by omega) (by omega)).mono ?_
    rw [← HU.out]
    rintro e w5 ⟨rfl, hb5⟩
    have hb15 := hb14.trans (hb5.mono hb14.size)
    go_wp2_with fail
    refine (impl_get16_any t K _ (by unfold maxLen; omega) (by omega)).mono ?_
    rw [HG.out]
    rintro e w6 ⟨rfl, hb6⟩
    have hb16 := hb15.trans (hb6.mono hb15.size)
    go_wp2_with fail
    refine (impl_get32_any u K _ (by unfold maxLen; omega) (by omega)).mono ?_
    rw [HG2.out.1]
    rintro e w7 ⟨rfl, hb7⟩
    have hb17 := hb16.trans (hb7.mono hb16.size)
    go_wp2_with fail
    refine (impl_get16_any u K _ (by unfold maxLen; omega) (by omega)).mono ?_
    rw [HG2.out.2]
    rintro e w8 ⟨rfl, hb8⟩
    have hb18 := hb17.trans (hb8.mono hb17.size)
    go_wp2_with fail
    have hx2 : (s.extract K (K + 2)).size ≤ 2 := by rw [ByteArray.size_extract]; omega
    refine (impl_put_any t K (s.extract K (K + 2)) _ (by omega) (by omega) (by omega)).mono ?_
    rw [HP.out]
    rintro e w9 ⟨rfl, hb9⟩
    have hb19 := hb18.trans (hb9.mono hb18.size)
    go_wp2_with fail
    refine (impl_add_any v (65535 - v) _ (by omega) (by omega)).mono ?_
    rw [HA.out]
    rintro e w10 ⟨rfl, hb10⟩
    have hb20 := hb19.trans (hb10.mono hb19.size)
    go_wp2
    go_ret
    exact ⟨rfl, hb20⟩
  · clear h
    go_enter Try.func5, Try.ntmps5
    go_wp2_with fail
    refine (big_yes _ _ _ _ (by omega)).mono ?_
    rintro e w' ⟨rfl, rfl⟩
    go_wp2
    go_ret
    exact ⟨rfl, Below.refl _ _⟩


set_option maxRecDepth 100000 in
theorem lifted (os : Os) (started : os.Started) (H : Type) (enc : TypeId × Value → H) :
    ReturnsInHanded {} Try.checked os 5 .any (Rows.fnWordsSpec.pre6 enc Try.prog Try.f5 Rows.fnWordsRow.domain false) (Rows.fnWordsSpec.post enc Try.prog Try.f5 false true false false) := by
  refine returnsInHanded_of_change (C := Try.checked) own started (by kernel_rfl) Try.func5
    (ChangeSpec.witness6 (enc := enc) (C := Try.checked) false ⟨#[], #[.slice none 0 0], []⟩ 8 (by kernel_rfl) (by kernel_rfl) (by kernel_rfl) (by kernel_rfl)) ?_
  intro W base args ds gs before hval0 hW hcnd _
  have hval : ∀ (j : Nat) t v, Try.f5.params[j]? = some t → args[j]? = some v → Value.okWide Try.prog W .any base t v := hval0
  have hW' := hW
  obtain ⟨p, q, hA0, hV, rfl, hfz, hnd⟩ := hW
  have hA : DataW.TrodAll enc Try.prog W 0 (fun _ => true) true Try.f5.params.toList args.toList ds p := hA0
  rw [Try.params5] at hA hval
  obtain ⟨v0, vs0, d0, ds0, p0, q0, hargs, rfl, rfl, h0, r0⟩ := trodAll_cons hA
  obtain ⟨rfl, rfl, rfl⟩ := trodAll_nil r0
  obtain rfl : args = #[v0] := by cases args; simp_all
  obtain ⟨rfl, rfl⟩ := trodVars_none hV
  have lt0 : ∀ x ∈ p0, x.block < W.heap.size := by obtain ⟨m, hm⟩ := h0; exact DataW.trod_lt m _ _ _ hm
  have k0 := h0
  obtain ⟨a0, len0, cap0, rfl⟩ := okWide_slice Try.underlying22 (hval 0 22 v0 rfl rfl)
  obtain ⟨z0, w0⟩ : ∃ zs, IsRow .u8 W a0 len0 cap0 zs := by
    obtain ⟨fuel, hf⟩ := h0
    rcases open_ints Try.underlying22 Try.underlying5 (by kernel_rfl) hf with ⟨hcs, _⟩ | ⟨x, l, c, zs, hcs, _, hl, hm, hz, _, hcell, hwz⟩
    · simp [Value.cells] at hcs
      obtain ⟨rfl, rfl, rfl⟩ := hcs
      exact ⟨[], .inl ⟨rfl, rfl, rfl, rfl⟩⟩
    · simp [Value.cells] at hcs
      obtain ⟨rfl, rfl, rfl⟩ := hcs
      exact ⟨zs, .inr ⟨_, rfl, hl, hm, by simpa using hz, hcell, hwz⟩⟩
  clear hA0 hval0
  refine (walk W a0 len0 cap0 z0 w0).mono fun e W' ⟨he, bel⟩ => ?_
  subst he
  exact ⟨_, rfl, _, _, _, [], _, [], hW', trodAll_mk1 (shut_bool Try.underlying4 _), (trodAll_cons_mk (Below.trod laidOut (by kernel_rfl) (of_decide_eq_true (by kernel_rfl)) k0 bel lt0) trodAll_mk0), rfl, bel.frame _, fun h => by cases h⟩

theorem over : Rows.fnWordsRow.holds Try.pinned (OpenSpec.ofChange Rows.fnWordsSpec) :=
  OpenClaim.holds_of_wide 5 Try.f5 rfl rfl rfl rfl rfl rfl rfl ⟨rfl, rfl, rfl, rfl, rfl⟩ rfl rfl rfl rfl rfl (by kernel_rfl) Try.func5 (by kernel_rfl)
    (of_decide_eq_true (by kernel_rfl)) (by unfold Func.isWrapper; first | (rw [if_pos (by decide +kernel)]; kernel_rfl) | (rw [if_neg (by decide +kernel)]; exact ⟨rfl, rfl⟩))
    (fun os started H enc _ => lifted os started H enc)

/-- The statement. -/
theorem proved : Rows.FnWordsSaid := over

end Go.Proofs.Ytnihigfpaalmgaa.fnWords
