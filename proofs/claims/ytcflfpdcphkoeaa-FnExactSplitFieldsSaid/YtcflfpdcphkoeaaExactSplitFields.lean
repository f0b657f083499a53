/- At every string SplitFields answers as the model does, and its answer owns its memory: the law FnExactSplitFields returns true for every input, and its argument reads as before. No condition. -/
import Derived.Test.YtcflfpdcphkoeaaSplitSpec
import Derived.Test.YtcflfpdcphkoeaaSplitImpl
import Derived.OpenShut
import Derived.ShutString
import Derived.ChangeOld
namespace Go.Proofs.Ytcflfpdcphkoeaa.fnExactSplitFields
open Go.ChangeShapes Go.WideShapes Go.ChangeAt Go.RowKit
open Go.ChangeMaps (open_string shut_string)
set_option linter.unusedVariables false

theorem own : ownKnob Try.prog.godebug = none := by kernel_rfl
theorem laidOut : laidOutB Try.prog = true := by kernel_rfl

set_option maxHeartbeats 2000000 in
set_option maxRecDepth 100000 in
theorem walk (w : World) (a0 : ByteArray) (w0 : a0.size ≤ maxLen) :
    Calls Try.prog 6 #[.string a0] w fun e w' => e = .returned (.bool true) ∧ Below w.heap.size w w' := by
  unfold maxLen at w0
  by_cases h1 : 1048576 < a0.size
  · have h1' : (1048576 : Int) < a0.size := by omega
    go_enter Try.func6, Try.ntmps6
    go_wp2
    go_ret
    exact ⟨rfl, Below.refl _ _⟩
  have h1' : ¬ (1048576 : Int) < a0.size := by omega
  have hz : a0.size ≤ 1048576 := by omega
  have hlen := splitL_length a0
  obtain ⟨L, hL⟩ : ∃ L, L = splitL a0 := ⟨_, rfl⟩
  obtain ⟨b, hb⟩ : ∃ b, b = splitB a0 := ⟨_, rfl⟩
  rw [← hL] at hlen
  have HL := Lib.hid hL
  have HB := Lib.hid hb
  clear hL hb
  go_enter Try.func6, Try.ntmps6
  go_wp2_with fail
  refine (spec_split a0 _ hz).mono ?_
  rintro e w1 ⟨v0, rfl, ho0, hb1⟩
  rw [← HB.out]
  rw [← HL.out] at ho0
  have H0 := Lib.hid ho0
  clear ho0
  go_wp2_with fail
  refine (impl_split a0 _ hz).mono ?_
  rintro e w2 ⟨v1, rfl, ho1, hb2⟩
  rw [← HB.out]
  rw [← HL.out] at ho1
  have H1 := Lib.hid ho1
  have H02 := Lib.hid (H0.out.below hb2)
  have hb12 := hb1.trans (hb2.mono hb1.size)
  clear ho1
  go_wp2_with fail
  refine (eq_same L _ _ v1 v0 _ H1.out H02.out (by omega)).mono ?_
  rintro e w3 ⟨rfl, hb3⟩
  have H13 := Lib.hid (H1.out.below hb3)
  have H03 := Lib.hid (H02.out.below hb3)
  have hb13 := hb12.trans (hb3.mono hb12.size)
  go_wp2_with fail
  refine (mark_any L 1 _ v1 _ H13.out (by omega) (by omega) (by omega)).mono ?_
  rintro e w4 ⟨rfl, hm4, hg4⟩
  have hfar : ∀ k, v1.ownBlock = some k → w1.heap.size ≤ k := fun k hk => (H1.out.lt k hk).1
  have H04 : RowKit.Hid (Own w4 w.heap.size v0 L) := Lib.hid (H03.out.kept hg4 (by
    rcases hob : v0.ownBlock with _ | j
    · exact .inl rfl
    · refine .inr (fun e => ?_)
      have h1 := (H0.out.lt j hob).2
      have h2 := hfar j e.symm
      omega))
  have hb14 : Below w.heap.size w w4 := hb13.grown hg4 hb13.size (fun k hk => Nat.le_trans hb1.size (hfar k hk))
  have H4 := Lib.hid hm4
  clear hm4 hg4
  go_wp2_with fail
  refine (held_any L.length 1 _ v1 _ H4.out (by omega) (by omega) (by omega)).mono ?_
  rintro e w5 ⟨rfl, hb5⟩
  have H45 := Lib.hid (H4.out.below hb5)
  have H05 := Lib.hid (H04.out.below hb5)
  have hb15 := hb14.trans (hb5.mono hb14.size)
  go_wp2_with fail
  refine (impl_split a0 _ hz).mono ?_
  rintro e w6 ⟨v2, rfl, ho2, hb6⟩
  rw [← HB.out]
  rw [← HL.out] at ho2
  have H2 := Lib.hid ho2
  have H06 := Lib.hid (H05.out.below hb6)
  have H46 := Lib.hid (H45.out.below hb6)
  have hb16 := hb15.trans (hb6.mono hb15.size)
  clear ho2
  go_wp2_with fail
  refine (eq_same L _ _ v2 v0 _ H2.out H06.out (by omega)).mono ?_
  rintro e w7 ⟨rfl, hb7⟩
  have H47 := Lib.hid (H46.out.below hb7)
  have hb17 := hb16.trans (hb7.mono hb16.size)
  go_wp2_with fail
  refine (held_any L.length 1 _ v1 _ H47.out (by omega) (by omega) (by omega)).mono ?_
  rintro e w8 ⟨rfl, hb8⟩
  have hb18 := hb17.trans (hb8.mono hb17.size)
  go_wp2
  go_ret
  exact ⟨rfl, hb18⟩


set_option maxRecDepth 100000 in
theorem lifted (os : Os) (started : os.Started) (H : Type) (enc : TypeId × Value → H) :
    ReturnsInHanded {} Try.checked os 6 .any (Rows.fnExactSplitFieldsSpec.pre6 enc Try.prog Try.f6 Rows.fnExactSplitFieldsRow.domain false) (Rows.fnExactSplitFieldsSpec.post enc Try.prog Try.f6 false true false false) := by
  refine returnsInHanded_of_change (C := Try.checked) own started (by kernel_rfl) Try.func6
    (ChangeSpec.witness6 (enc := enc) (C := Try.checked) false ⟨#[], #[.string ByteArray.empty], []⟩ 8 (by kernel_rfl) (by kernel_rfl) (by kernel_rfl) (by kernel_rfl)) ?_
  intro W base args ds gs before hval0 hW hcnd _
  have hval : ∀ (j : Nat) t v, Try.f6.params[j]? = some t → args[j]? = some v → Value.okWide Try.prog W .any base t v := hval0
  have hW' := hW
  obtain ⟨p, q, hA0, hV, rfl, hfz, hnd⟩ := hW
  have hA : DataW.TrodAll enc Try.prog W 0 (fun _ => true) true Try.f6.params.toList args.toList ds p := hA0
  rw [Try.params6] at hA hval
  obtain ⟨v0, vs0, d0, ds0, p0, q0, hargs, rfl, rfl, h0, r0⟩ := trodAll_cons hA
  obtain ⟨rfl, rfl, rfl⟩ := trodAll_nil r0
  obtain rfl : args = #[v0] := by cases args; simp_all
  obtain ⟨rfl, rfl⟩ := trodVars_none hV
  have lt0 : ∀ x ∈ p0, x.block < W.heap.size := by obtain ⟨m, hm⟩ := h0; exact DataW.trod_lt m _ _ _ hm
  have k0 := h0
  obtain ⟨a0, rfl, rfl, rfl, w0⟩ := open_string Try.underlying9 (hval 0 9 v0 rfl rfl) h0
  clear hA0 hval0
  refine (walk W a0 w0).mono fun e W' ⟨he, bel⟩ => ?_
  subst he
  exact ⟨_, rfl, _, _, _, [], _, [], hW', trodAll_mk1 (shut_bool Try.underlying4 _), (trodAll_cons_mk (Below.trod laidOut (by kernel_rfl) (of_decide_eq_true (by kernel_rfl)) k0 bel lt0) trodAll_mk0), rfl, bel.frame _, fun h => by cases h⟩

theorem over : Rows.fnExactSplitFieldsRow.holds Try.pinned (OpenSpec.ofChange Rows.fnExactSplitFieldsSpec) :=
  OpenClaim.holds_of_wide 6 Try.f6 rfl rfl rfl rfl rfl rfl rfl ⟨rfl, rfl, rfl, rfl, rfl⟩ rfl rfl rfl rfl rfl (by kernel_rfl) Try.func6 (by kernel_rfl)
    (of_decide_eq_true (by kernel_rfl)) (by unfold Func.isWrapper; first | (rw [if_pos (by decide +kernel)]; kernel_rfl) | (rw [if_neg (by decide +kernel)]; exact ⟨rfl, rfl⟩))
    (fun os started H enc _ => lifted os started H enc)

/-- The statement. -/
theorem proved : Rows.FnExactSplitFieldsSaid := over

end Go.Proofs.Ytcflfpdcphkoeaa.fnExactSplitFields
