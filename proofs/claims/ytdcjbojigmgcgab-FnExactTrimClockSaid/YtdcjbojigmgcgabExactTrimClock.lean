/- At every argument TrimClock answers as the model does: the law FnExactTrimClock returns true for every input, and its arguments read as before. No condition. -/
import Derived.Test.YtdcjbojigmgcgabClkB
import Derived.Test.YtdcjbojigmgcgabEqClock
import Derived.Test.YtdcjbojigmgcgabToClock
import Derived.Test.YtdcjbojigmgcgabOpenClock
import Derived.OpenShut
import Derived.ShutString
import Derived.ChangeOld
namespace Go.Proofs.Ytdcjbojigmgcgab.fnExactTrimClock
open Go.ChangeShapes Go.WideShapes Go.ChangeAt Go.RowKit
open Go.ChangeMaps (open_string shut_string)
set_option linter.unusedVariables false

theorem own : ownKnob Try.prog.godebug = none := by kernel_rfl
theorem laidOut : laidOutB Try.prog = true := by kernel_rfl

set_option maxHeartbeats 4000000 in
set_option maxRecDepth 100000 in
theorem walk (w : World) (a0 : ClockM) (w0 : a0.Wf) (a1 : Int) (w1 : (Lit.int .i64 a1).wf = true) :
    Calls Try.prog 6 #[a0.val, .int .i64 a1] w fun e w' => e = .returned (.bool true) ∧ Below w.heap.size w w' := by
  have b1 := i64_bd w1
  clear w1
  have HT0 : Hid (∀ W, _) := Lib.hid fun W => to_clock a0 W
  have HS : Hid (∀ W, _) := Lib.hid fun W => spec_trim a0 a1 W
  have HI : Hid (∀ W, _) := Lib.hid fun W => impl_trim a0 a1 W
  generalize a0.trim a1 = R at HS HI
  have HE : Hid (∀ W, _) := Lib.hid fun W => eq_clock R W
  obtain ⟨xTimer, xFractionr, xRater, xDebtr⟩ := R
  obtain ⟨xTime, xFraction, xRate, xDebt⟩ := a0
  unfold ClockM.val at *
  dsimp only at *
  go_enter Try.func6, Try.ntmps6
  go_wp2_with (first
      | (go_at_call 14; refine (HT0.out _).mono ?_; rintro e w1 ⟨rfl, hb1⟩; obtain ⟨hc, hf, _⟩ := bcell hb1; try (have hg0 : w.heap.size < w1.heap.size := by (have hz := hb1.size; (try simp at hz); omega)); try (have hS0 : wS0.heap.size < w1.heap.size := by (have hz := hb1.size; (try simp at hz); omega)); try (have hS1 : wS1.heap.size < w1.heap.size := by (have hz := hb1.size; (try simp at hz); omega)))
      | (go_at_call 21; refine (HS.out _).mono ?_; rintro e wS0 ⟨rfl, hb1⟩; obtain ⟨hc, hf, _⟩ := bcell hb1; try (have hg0 : w.heap.size < wS0.heap.size := by (have hz := hb1.size; (try simp at hz); omega)); try (have hS1 : wS1.heap.size < wS0.heap.size := by (have hz := hb1.size; (try simp at hz); omega)))
      | (go_at_call 22; refine (HI.out _).mono ?_; rintro e wS1 ⟨rfl, hb1⟩; obtain ⟨hc, hf, _⟩ := bcell hb1; try (have hg0 : w.heap.size < wS1.heap.size := by (have hz := hb1.size; (try simp at hz); omega)); try (have hS0 : wS0.heap.size < wS1.heap.size := by (have hz := hb1.size; (try simp at hz); omega)))
      | (go_at_call 18; refine (HE.out _).mono ?_; rintro e w1 ⟨rfl, hb1⟩; obtain ⟨hc, hf, _⟩ := bcell hb1; try (have hg0 : w.heap.size < w1.heap.size := by (have hz := hb1.size; (try simp at hz); omega)); try (have hS0 : wS0.heap.size < w1.heap.size := by (have hz := hb1.size; (try simp at hz); omega)); try (have hS1 : wS1.heap.size < w1.heap.size := by (have hz := hb1.size; (try simp at hz); omega))))
  all_goals
    go_ret
    refine ⟨rfl, ?_⟩
    repeat (first | exact Below.refl _ _ | exact below_new _ | (refine below_comp ?_ (by assumption)) | (refine below_comp ?_ (below_new _)))

set_option maxRecDepth 100000 in
theorem lifted (os : Os) (started : os.Started) (H : Type) (enc : TypeId × Value → H) :
    ReturnsInHanded {} Try.checked os 6 .any (Rows.fnExactTrimClockSpec.pre6 enc Try.prog Try.f6 Rows.fnExactTrimClockRow.domain false) (Rows.fnExactTrimClockSpec.post enc Try.prog Try.f6 false true false false) := by
  refine returnsInHanded_of_change (C := Try.checked) own started (by kernel_rfl) Try.func6
    (ChangeSpec.witness6 (enc := enc) (C := Try.checked) false ⟨#[], #[.agg #[.int .i64 0, .int .i64 0, .int .i64 0, .int .i64 0], .int .i64 0], []⟩ 8 (by kernel_rfl) (by kernel_rfl) (by kernel_rfl) (by kernel_rfl)) ?_
  intro W base args ds gs before hval0 hW hcnd _
  have hval : ∀ (j : Nat) t v, Try.f6.params[j]? = some t → args[j]? = some v → Value.okWide Try.prog W .any base t v := hval0
  have hW' := hW
  obtain ⟨p, q, hA0, hV, rfl, hfz, hnd⟩ := hW
  have hA : DataW.TrodAll enc Try.prog W 0 (fun _ => true) true Try.f6.params.toList args.toList ds p := hA0
  rw [Try.params6] at hA hval
  obtain ⟨v0, vs0, d0, ds0, p0, q0, hargs, rfl, rfl, h0, r0⟩ := trodAll_cons hA
  obtain ⟨v1, vs1, d1, ds1, p1, q1, rfl, rfl, rfl, h1, r1⟩ := trodAll_cons r0
  obtain ⟨rfl, rfl, rfl⟩ := trodAll_nil r1
  obtain rfl : args = #[v0, v1] := by cases args; simp_all
  obtain ⟨rfl, rfl⟩ := trodVars_none hV
  have lt0 : ∀ x ∈ p0, x.block < W.heap.size := by obtain ⟨m, hm⟩ := h0; exact DataW.trod_lt m _ _ _ hm
  have k0 := h0
  obtain ⟨a0, rfl, w0⟩ := OpClock.opened (hval 0 23 v0 rfl rfl) h0
  have lt1 : ∀ x ∈ p1, x.block < W.heap.size := by obtain ⟨m, hm⟩ := h1; exact DataW.trod_lt m _ _ _ hm
  have k1 := h1
  obtain ⟨a1, rfl, rfl, rfl, w1⟩ := open_int Try.underlying3 (hval 1 3 v1 rfl rfl) h1
  clear hA0 hval0
  refine (walk W a0 w0 a1 w1).mono fun e W' ⟨he, bel⟩ => ?_
  subst he
  exact ⟨_, rfl, _, _, _, [], _, [], hW', trodAll_mk1 (shut_bool Try.underlying4 _), (trodAll_cons_mk (Below.trod laidOut (by kernel_rfl) (of_decide_eq_true (by kernel_rfl)) k0 bel lt0) (trodAll_cons_mk (Below.trod laidOut (by kernel_rfl) (of_decide_eq_true (by kernel_rfl)) k1 bel lt1) trodAll_mk0)), rfl, bel.frame _, fun h => by cases h⟩

theorem over : Rows.fnExactTrimClockRow.holds Try.pinned (OpenSpec.ofChange Rows.fnExactTrimClockSpec) :=
  OpenClaim.holds_of_wide 6 Try.f6 rfl rfl rfl rfl rfl rfl rfl ⟨rfl, rfl, rfl, rfl, rfl⟩ rfl rfl rfl rfl rfl (by kernel_rfl) Try.func6 (by kernel_rfl)
    (of_decide_eq_true (by kernel_rfl)) (by unfold Func.isWrapper; first | (rw [if_pos (by decide +kernel)]; kernel_rfl) | (rw [if_neg (by decide +kernel)]; exact ⟨rfl, rfl⟩))
    (fun os started H enc _ => lifted os started H enc)

/-- The statement. -/
theorem proved : Rows.FnExactTrimClockSaid := over

end Go.Proofs.Ytdcjbojigmgcgab.fnExactTrimClock
