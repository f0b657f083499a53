/- A flipped bit of protected data is noticed, and what was protected can be checked: the law FnCrcSees returns true for every input, and its argument reads as before. No condition. -/
import Derived.Test.YtnihigfpaalmgaaBytesAnySpec
import Derived.Test.YtnihigfpaalmgaaBytesAnyImpl
import Derived.Test.YtnihigfpaalmgaaCrcImpl
import Derived.Test.YtnihigfpaalmgaaBend
import Derived.Test.YtnihigfpaalmgaaDataDraw
import Derived.OpenShut
import Derived.ShutString
import Derived.ChangeOld
namespace Go.Proofs.Ytnihigfpaalmgaa.fnCrcSees
open Go.ChangeShapes Go.WideShapes Go.ChangeAt Go.RowKit
open Go.ChangeMaps (open_string shut_string)
set_option linter.unusedVariables false

theorem own : ownKnob Try.prog.godebug = none := by kernel_rfl
theorem laidOut : laidOutB Try.prog = true := by kernel_rfl

set_option maxHeartbeats 2000000 in
set_option maxRecDepth 100000 in
theorem walk (w : World) (a0 : Option Addr) (len0 cap0 : Nat) (z0 : List Int) (h : IsRow .u8 w a0 len0 cap0 z0) :
    Calls Try.prog 6 #[.slice a0 len0 cap0] w fun e w' => e = .returned (.bool true) ∧ Below w.heap.size w w' := by
  by_cases hbig : len0 ≤ 1048576
  · have HC := Lib.hid (Code.of_row h hbig)
    clear h
    go_enter Try.func6, Try.ntmps6
    go_wp2_with fail
    refine (big_no _ _ _ _ hbig).mono ?_
    rintro e w' ⟨rfl, rfl⟩
    go_wp2_with fail
    refine (draw_data a0 len0 cap0 _ HC.out).mono ?_
    rintro e w1 ⟨s0, hs0, rfl, hb1⟩
    have HC1 := Lib.hid (HC.out.below hb1)
    go_wp2_with fail
    refine (impl_with s0 _ (by omega)).mono ?_
    rintro e w2 ⟨rfl, hb2⟩
    have hb12 := hb1.trans (hb2.mono hb1.size)
    have HC2 := Lib.hid (HC.out.below hb12)
    have hz := withF_size s0
    have HG := Lib.hid (good_with s0)
    have HB : RowKit.Hid (checkS (withF s0) = s0) := Lib.hid (by unfold checkS; rw [if_pos HG.out, body_with])
    have HN := Lib.hid (bend_seen s0)
    obtain ⟨t, ht⟩ : ∃ t, t = withF s0 := ⟨_, rfl⟩
    rw [← ht] at HG HB hz ⊢
    have HT := Lib.hid ht
    clear ht
    have hzi : (t.size : Int) = (s0.size : Int) + 4 := by omega
    go_wp2_with fail
    refine (impl_check t _ (by omega)).mono ?_
    rw [HG.out, HB.out]
    rintro e w3 ⟨rfl, hb3⟩
    have hb13 := hb12.trans (hb3.mono hb12.size)
    have HC3 := Lib.hid (HC.out.below hb13)
    go_wp2_with fail
    refine (at_any _ 0 a0 len0 cap0 _ HC3.out (by omega)).mono ?_
    rintro e w' ⟨x, ⟨x0, x1⟩, rfl, rfl⟩
    go_wp2_with fail
    refine (at_any _ 1 a0 len0 cap0 _ HC3.out (by omega)).mono ?_
    rintro e w' ⟨y, ⟨y0, y1⟩, rfl, rfl⟩
    go_wp2_with fail
    refine (bend_any t _ _ (by omega) (by omega) (by omega)).mono ?_
    rintro e w4 ⟨⟨k, hk, b, hb, rfl⟩, hb4⟩
    have hb14 := hb13.trans (hb4.mono hb13.size)
    have hbz := bendB_size t k b hk
    have HF : RowKit.Hid (goodF (bendB t k b) = false) := Lib.hid (by
      have h1 := HN.out; have h2 := HT.out; subst h2; exact h1 k b hk hb)
    go_wp2_with fail
    refine (impl_check (bendB t k b) _ (by omega)).mono ?_
    rw [HF.out]
    rintro e w5 ⟨rfl, hb5⟩
    have hb15 := hb14.trans (hb5.mono hb14.size)
    go_wp2_with fail
    refine (impl_crc_any _ _ (by decide)).mono ?_
    rw [crc_known]
    rintro e w6 ⟨rfl, hb6⟩
    have hb16 := hb15.trans (hb6.mono hb15.size)
    go_wp2
    go_ret
    exact ⟨rfl, hb16⟩
  · clear h
    go_enter Try.func6, Try.ntmps6
    go_wp2_with fail
    refine (big_yes _ _ _ _ (by omega)).mono ?_
    rintro e w' ⟨rfl, rfl⟩
    go_wp2
    go_ret
    exact ⟨rfl, Below.refl _ _⟩


set_option maxRecDepth 100000 in
theorem lifted (os : Os) (started : os.Started) (H : Type) (enc : TypeId × Value → H) :
    ReturnsInHanded {} Try.checked os 6 .any (Rows.fnCrcSeesSpec.pre6 enc Try.prog Try.f6 Rows.fnCrcSeesRow.domain false) (Rows.fnCrcSeesSpec.post enc Try.prog Try.f6 false true false false) := by
  refine returnsInHanded_of_change (C := Try.checked) own started (by kernel_rfl) Try.func6
    (ChangeSpec.witness6 (enc := enc) (C := Try.checked) false ⟨#[], #[.slice none 0 0], []⟩ 8 (by kernel_rfl) (by kernel_rfl) (by kernel_rfl) (by kernel_rfl)) ?_
  intro W base args ds gs before hval0 hW hcnd _
  have hval : ∀ (j : Nat) t v, Try.f6.params[j]? = some t → args[j]? = some v → Value.okWide Try.prog W .any base t v := hval0
  have hW' := hW
  obtain ⟨p, q, hA0, hV, rfl, hfz, hnd⟩ := hW
  have hA : DataW.TrodAll enc Try.prog W 0 (fun _ => true) true Try.f6.params.toList args.toList ds p := hA0
  rw [Try.params6] at hA hval
  obtain ⟨v0, vs0, d0, ds0, p0, q0, hargs, rfl, rfl, h0, r0⟩ := trodAll_cons hA
  obtain ⟨rfl, rfl, rfl⟩ := trodAll_nil r0
  obtain rfl : args = #[v0] := by cases args; simp_all
  obtain ⟨rfl, rfl⟩ := trodVars_none hV
  have lt0 : ∀ x ∈ p0, x.block < W.heap.size := by obtain ⟨m, hm⟩ := h0; exact DataW.trod_lt m _ _ _ hm
  have k0 := h0
  obtain ⟨a0, len0, cap0, rfl⟩ := okWide_slice Try.underlying22 (hval 0 22 v0 rfl rfl)
  obtain ⟨z0, w0⟩ : ∃ zs, IsRow .u8 W a0 len0 cap0 zs := by
    obtain ⟨fuel, hf⟩ := h0
    rcases open_ints Try.underlying22 Try.underlying5 (by kernel_rfl) hf with ⟨hcs, _⟩ | ⟨x, l, c, zs, hcs, _, hl, hm, hz, _, hcell, hwz⟩
    · simp [Value.cells] at hcs
      obtain ⟨rfl, rfl, rfl⟩ := hcs
      exact ⟨[], .inl ⟨rfl, rfl, rfl, rfl⟩⟩
    · simp [Value.cells] at hcs
      obtain ⟨rfl, rfl, rfl⟩ := hcs
      exact ⟨zs, .inr ⟨_, rfl, hl, hm, by simpa using hz, hcell, hwz⟩⟩
  clear hA0 hval0
  refine (walk W a0 len0 cap0 z0 w0).mono fun e W' ⟨he, bel⟩ => ?_
  subst he
  exact ⟨_, rfl, _, _, _, [], _, [], hW', trodAll_mk1 (shut_bool Try.underlying4 _), (trodAll_cons_mk (Below.trod laidOut (by kernel_rfl) (of_decide_eq_true (by kernel_rfl)) k0 bel lt0) trodAll_mk0), rfl, bel.frame _, fun h => by cases h⟩

theorem over : Rows.fnCrcSeesRow.holds Try.pinned (OpenSpec.ofChange Rows.fnCrcSeesSpec) :=
  OpenClaim.holds_of_wide 6 Try.f6 rfl rfl rfl rfl rfl rfl rfl ⟨rfl, rfl, rfl, rfl, rfl⟩ rfl rfl rfl rfl rfl (by kernel_rfl) Try.func6 (by kernel_rfl)
    (of_decide_eq_true (by kernel_rfl)) (by unfold Func.isWrapper; first | (rw [if_pos (by decide +kernel)]; kernel_rfl) | (rw [if_neg (by decide +kernel)]; exact ⟨rfl, rfl⟩))
    (fun os started H enc _ => lifted os started H enc)

/-- The statement. -/
theorem proved : Rows.FnCrcSeesSaid := over

end Go.Proofs.Ytnihigfpaalmgaa.fnCrcSees
