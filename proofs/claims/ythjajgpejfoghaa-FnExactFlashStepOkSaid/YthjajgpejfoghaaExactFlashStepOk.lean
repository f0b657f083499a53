/- At every argument FlashStepOk answers as the model does: the law FnExactFlashStepOk returns true for every input, and its arguments read as before. No condition. -/
import Derived.Test.YthjajgpejfoghaaStepB
import Derived.Test.YthjajgpejfoghaaLawFlashStep
import Derived.Test.YthjajgpejfoghaaOpenFlashStep
import Derived.OpenShut
import Derived.ShutString
import Derived.ChangeOld
namespace Go.Proofs.Ythjajgpejfoghaa.fnExactFlashStepOk
open Go.ChangeShapes Go.WideShapes Go.ChangeAt Go.RowKit
open Go.ChangeMaps (open_string shut_string)
set_option linter.unusedVariables false

theorem own : ownKnob Try.prog.godebug = none := by kernel_rfl
theorem laidOut : laidOutB Try.prog = true := by kernel_rfl

set_option maxHeartbeats 4000000 in
set_option maxRecDepth 100000 in
theorem walk (w : World) (a0 : StepM) (w0 : a0.Wf) :
    Calls Try.prog 12 #[a0.val] w fun e w' => e = .returned (.bool true) ∧ Below w.heap.size w w' := by
  have HT : Hid (∀ W, _) := Lib.hid fun W => to_flashstep a0 W
  have HZ : Hid (∀ W, _) := Lib.hid fun W => sz_flashstep a0 1048576 W w0 (by omega)
  by_cases hl : 1048576 < (a0.body.size : Int)
  case' pos =>
    rw [if_pos hl] at HZ
    have HS : Hid True := Lib.hid trivial
    have HI : Hid True := Lib.hid trivial
  case' neg =>
    rw [if_neg hl] at HZ
    have HS : Hid (∀ W, _) := Lib.hid fun W => spec_flashstepok a0 (by omega) W
    have HI : Hid (∀ W, _) := Lib.hid fun W => impl_flashstepok a0 (by omega) W
    generalize decide a0.Ok = B at HS HI
  all_goals
    obtain ⟨ki, ba, po, da⟩ := a0
    unfold StepM.val at *
    dsimp only at *
    go_enter Try.func12, Try.ntmps12
    go_wp2_with (first
      | (go_at_call 40; refine (HZ.out _).mono ?_; rintro e w1 ⟨rfl, hb1⟩; obtain ⟨hc, hf, _⟩ := bcell hb1; (have hg0 : w.heap.size < w1.heap.size := by (have hz := hb1.size; (try simp at hz); omega)))
      | (go_at_call 42; refine (HT.out _).mono ?_; rintro e w1 ⟨rfl, hb1⟩; obtain ⟨hc, hf, _⟩ := bcell hb1; (have hg0 : w.heap.size < w1.heap.size := by (have hz := hb1.size; (try simp at hz); omega)))
      | (go_at_call 41; refine (HS.out _).mono ?_; rintro e w1 ⟨rfl, hb1⟩; obtain ⟨hc, hf, _⟩ := bcell hb1; (have hg0 : w.heap.size < w1.heap.size := by (have hz := hb1.size; (try simp at hz); omega)))
      | (go_at_call 43; refine (HI.out _).mono ?_; rintro e w1 ⟨rfl, hb1⟩; obtain ⟨hc, hf, _⟩ := bcell hb1; (have hg0 : w.heap.size < w1.heap.size := by (have hz := hb1.size; (try simp at hz); omega))))
    all_goals
      go_ret
      refine ⟨rfl, ?_⟩
      repeat (first | exact Below.refl _ _ | exact below_new _ | (refine below_comp ?_ (by assumption)))

set_option maxRecDepth 100000 in
theorem lifted (os : Os) (started : os.Started) (H : Type) (enc : TypeId × Value → H) :
    ReturnsInHanded {} Try.checked os 12 .any (Rows.fnExactFlashStepOkSpec.pre6 enc Try.prog Try.f12 Rows.fnExactFlashStepOkRow.domain false) (Rows.fnExactFlashStepOkSpec.post enc Try.prog Try.f12 false true false false) := by
  refine returnsInHanded_of_change (C := Try.checked) own started (by kernel_rfl) Try.func12
    (ChangeSpec.witness6 (enc := enc) (C := Try.checked) false ⟨#[], #[.agg #[.int .i64 0, .int .i64 0, .int .i64 0, .string ByteArray.empty]], []⟩ 8 (by kernel_rfl) (by kernel_rfl) (by kernel_rfl) (by kernel_rfl)) ?_
  intro W base args ds gs before hval0 hW hcnd _
  have hval : ∀ (j : Nat) t v, Try.f12.params[j]? = some t → args[j]? = some v → Value.okWide Try.prog W .any base t v := hval0
  have hW' := hW
  obtain ⟨p, q, hA0, hV, rfl, hfz, hnd⟩ := hW
  have hA : DataW.TrodAll enc Try.prog W 0 (fun _ => true) true Try.f12.params.toList args.toList ds p := hA0
  rw [Try.params12] at hA hval
  obtain ⟨v0, vs0, d0, ds0, p0, q0, hargs, rfl, rfl, h0, r0⟩ := trodAll_cons hA
  obtain ⟨rfl, rfl, rfl⟩ := trodAll_nil r0
  obtain rfl : args = #[v0] := by cases args; simp_all
  obtain ⟨rfl, rfl⟩ := trodVars_none hV
  have lt0 : ∀ x ∈ p0, x.block < W.heap.size := by obtain ⟨m, hm⟩ := h0; exact DataW.trod_lt m _ _ _ hm
  have k0 := h0
  obtain ⟨a0, rfl, w0⟩ := OpFlashStep.opened (hval 0 64 v0 rfl rfl) h0
  clear hA0 hval0
  refine (walk W a0 w0).mono fun e W' ⟨he, bel⟩ => ?_
  subst he
  exact ⟨_, rfl, _, _, _, [], _, [], hW', trodAll_mk1 (shut_bool Try.underlying4 _), (trodAll_cons_mk (Below.trod laidOut (by kernel_rfl) (of_decide_eq_true (by kernel_rfl)) k0 bel lt0) trodAll_mk0), rfl, bel.frame _, fun h => by cases h⟩

theorem over : Rows.fnExactFlashStepOkRow.holds Try.pinned (OpenSpec.ofChange Rows.fnExactFlashStepOkSpec) :=
  OpenClaim.holds_of_wide 12 Try.f12 rfl rfl rfl rfl rfl rfl rfl ⟨rfl, rfl, rfl, rfl, rfl⟩ rfl rfl rfl rfl rfl (by kernel_rfl) Try.func12 (by kernel_rfl)
    (of_decide_eq_true (by kernel_rfl)) (by unfold Func.isWrapper; first | (rw [if_pos (by decide +kernel)]; kernel_rfl) | (rw [if_neg (by decide +kernel)]; exact ⟨rfl, rfl⟩))
    (fun os started H enc _ => lifted os started H enc)

/-- The statement. -/
theorem proved : Rows.FnExactFlashStepOkSaid := over

end Go.Proofs.Ythjajgpejfoghaa.fnExactFlashStepOk
