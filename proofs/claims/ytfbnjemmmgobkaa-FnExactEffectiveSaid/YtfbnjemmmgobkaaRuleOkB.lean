/- RuleOk of both sides. -/
import Derived.Test.YtfbnjemmmgobkaaInYN
import Derived.Test.YtfbnjemmmgobkaaKit
import Derived.Test.YtfbnjemmmgobkaaFlatOk
import Derived.Deep.QuietTactic
import Derived.BigQuiet
namespace Go.Proofs.Ytfbnjemmmgobkaa
open Go.RowKit
set_option linter.unusedSimpArgs false
set_option linter.unusedVariables false

def RuleM.Act (e : RuleM) : Prop := (e.xAction = 0 ∧ 0 ≤ e.xQueue ∧ e.xQueue ≤ 3) ∨ (e.xAction = 1 ∧ e.xQueue = 0)
instance (e : RuleM) : Decidable e.Act := by unfold RuleM.Act; infer_instance
theorem impl_layout (k : Int) (w : World) :
    Calls Try.prog 171 #[.int .i64 k] w fun r w' => r = .returned (.int .i64 (if k = 6 then 1 else if k = 17 then 2 else 0)) ∧ w = w' := by
  by_cases h6 : k = 6
  · subst h6
    go_enter Try.func171, Try.ntmps171
    go_wp2
    go_ret
    exact ⟨rfl, rfl⟩
  · by_cases h17 : k = 17
    · subst h17
      go_enter Try.func171, Try.ntmps171
      go_wp2
      go_ret
      exact ⟨rfl, rfl⟩
    · rw [if_neg h6, if_neg h17]
      go_enter Try.func171, Try.ntmps171
      go_wp2
      go_ret
      exact ⟨rfl, rfl⟩

set_option maxHeartbeats 4000000 in
set_option maxRecDepth 100000 in
theorem impl_actionok (e : RuleM) (w : World) :
    Calls Try.prog 172 #[e.val] w fun r w' => r = .returned (.bool (decide e.Act)) ∧ Below w.heap.size w w' := by
  obtain ⟨xPriority, xKind, xSrcIp, xSrcBits, xFirstPort, xLastPort, xVlan, xAction, xQueue⟩ := e
  unfold RuleM.val
  dsimp only
  obtain ⟨B, HB⟩ : ∃ B : Bool, Hid (B = decide (RuleM.Act ⟨xPriority, xKind, xSrcIp, xSrcBits, xFirstPort, xLastPort, xVlan, xAction, xQueue⟩) ∧ (B = true ↔ RuleM.Act ⟨xPriority, xKind, xSrcIp, xSrcBits, xFirstPort, xLastPort, xVlan, xAction, xQueue⟩)) := ⟨_, Lib.hid ⟨rfl, decide_eq_true_iff⟩⟩
  rw [← HB.out.1]
  go_enter Try.func172, Try.ntmps172
  go_wp2_with (first | (go_at_call 110; refine (impl_in _ _ _ _).mono ?_; rintro e w' ⟨rfl, rfl⟩))
  all_goals
    go_ret
    refine ⟨ret_bool ?_, by repeat (first | exact Below.refl _ _ | exact below_new _ | (refine below_comp ?_ (by assumption)) | (refine below_comp ?_ (below_new _)))⟩
    rw [Bool.eq_iff_iff, HB.out.2]
    unfold RuleM.Act
    dsimp only
    simp only [Bool.and_eq_true, Bool.or_eq_true, decide_eq_true_eq, bne_iff_ne, beq_iff_eq, Bool.false_eq_true, ne_eq, false_iff, true_iff, true_and, and_true]
    first | omega | (simp only [Bool.not_eq_true', Bool.not_eq_false', decide_eq_false_iff_not, decide_eq_true_eq, beq_eq_false_iff_ne, beq_iff_eq, bne_iff_ne, bne_eq_false_iff_eq, ne_eq] at *; omega)

set_option maxHeartbeats 4000000 in
set_option maxRecDepth 100000 in
theorem spec_ruleok (e : RuleM) (w : World) :
    Calls Try.prog 143 #[e.val] w fun r w' => r = .returned (.bool (decide e.Ok)) ∧ Below w.heap.size w w' := by
  obtain ⟨xPriority, xKind, xSrcIp, xSrcBits, xFirstPort, xLastPort, xVlan, xAction, xQueue⟩ := e
  unfold RuleM.val
  dsimp only
  obtain ⟨B, HB⟩ : ∃ B : Bool, Hid (B = decide (RuleM.Ok ⟨xPriority, xKind, xSrcIp, xSrcBits, xFirstPort, xLastPort, xVlan, xAction, xQueue⟩) ∧ (B = true ↔ RuleM.Ok ⟨xPriority, xKind, xSrcIp, xSrcBits, xFirstPort, xLastPort, xVlan, xAction, xQueue⟩)) := ⟨_, Lib.hid ⟨rfl, decide_eq_true_iff⟩⟩
  rw [← HB.out.1]
  go_enter Try.func143, Try.ntmps143
  go_wp2_with (first | (go_at_call 108; refine (spec_in _ _ _ _).mono ?_; rintro e w' ⟨rfl, rfl⟩))
  all_goals
    go_ret
    refine ⟨ret_bool ?_, by repeat (first | exact Below.refl _ _ | exact below_new _ | (refine below_comp ?_ (by assumption)) | (refine below_comp ?_ (below_new _)))⟩
    rw [Bool.eq_iff_iff, HB.out.2]
    unfold RuleM.Ok
    dsimp only
    simp only [Bool.and_eq_true, Bool.or_eq_true, decide_eq_true_eq, bne_iff_ne, beq_iff_eq, Bool.false_eq_true, ne_eq, false_iff, true_iff, true_and, and_true]
    first | omega | (simp only [Bool.not_eq_true', Bool.not_eq_false', decide_eq_false_iff_not, decide_eq_true_eq, beq_eq_false_iff_ne, beq_iff_eq, bne_iff_ne, bne_eq_false_iff_eq, ne_eq] at *; omega)

set_option maxHeartbeats 4000000 in
set_option maxRecDepth 100000 in
theorem impl_ruleok_zero (e : RuleM) (w : World) (hk :  e.xKind = 0) :
    Calls Try.prog 146 #[e.val] w fun r w' => r = .returned (.bool (decide e.Ok)) ∧ Below w.heap.size w w' := by
  obtain ⟨xPriority, xKind, xSrcIp, xSrcBits, xFirstPort, xLastPort, xVlan, xAction, xQueue⟩ := e
  unfold RuleM.val
  dsimp only at hk ⊢
  subst hk
  by_cases c0 : 0 ≤ xPriority ∧ xPriority ≤ 1000
  case neg =>
    have Y0 := Lib.hid fun W => impl_in_no (xPriority) (0) (1000) W c0
    skip
    go_enter Try.func146, Try.ntmps146
    go_wp2_with (first
      | (go_at_call_of 110 (Value.int IntKind.i64 xPriority); refine (Y0.out _).mono ?_; rintro e w' ⟨rfl, rfl⟩))
    all_goals
      go_ret
      refine ⟨ret_bool ?_, by repeat (first | exact Below.refl _ _ | exact below_new _ | (refine below_comp ?_ (by assumption)) | (refine below_comp ?_ (below_new _)))⟩
      exact (decide_eq_false (fun hh => c0 hh.1)).symm
  by_cases c1 : 0 ≤ xSrcIp ∧ xSrcIp ≤ 4294967295
  case neg =>
    have Y0 := Lib.hid fun W => impl_in_yes (xPriority) (0) (1000) W c0
    have Y1 := Lib.hid fun W => impl_in_no (xSrcIp) (0) (4294967295) W c1
    skip
    go_enter Try.func146, Try.ntmps146
    go_wp2_with (first
      | (go_at_call_of 110 (Value.int IntKind.i64 xPriority); refine (Y0.out _).mono ?_; rintro e w' ⟨rfl, rfl⟩)
      | (go_at_call_of 110 (Value.int IntKind.i64 xSrcIp); refine (Y1.out _).mono ?_; rintro e w' ⟨rfl, rfl⟩))
    all_goals
      go_ret
      refine ⟨ret_bool ?_, by repeat (first | exact Below.refl _ _ | exact below_new _ | (refine below_comp ?_ (by assumption)) | (refine below_comp ?_ (below_new _)))⟩
      exact (decide_eq_false (fun hh => c1 hh.2.2.1)).symm
  by_cases c2 : 0 ≤ xSrcBits ∧ xSrcBits ≤ 32
  case neg =>
    have Y0 := Lib.hid fun W => impl_in_yes (xPriority) (0) (1000) W c0
    have Y1 := Lib.hid fun W => impl_in_yes (xSrcIp) (0) (4294967295) W c1
    have Y2 := Lib.hid fun W => impl_in_no (xSrcBits) (0) (32) W c2
    skip
    go_enter Try.func146, Try.ntmps146
    go_wp2_with (first
      | (go_at_call_of 110 (Value.int IntKind.i64 xPriority); refine (Y0.out _).mono ?_; rintro e w' ⟨rfl, rfl⟩)
      | (go_at_call_of 110 (Value.int IntKind.i64 xSrcIp); refine (Y1.out _).mono ?_; rintro e w' ⟨rfl, rfl⟩)
      | (go_at_call_of 110 (Value.int IntKind.i64 xSrcBits); refine (Y2.out _).mono ?_; rintro e w' ⟨rfl, rfl⟩))
    all_goals
      go_ret
      refine ⟨ret_bool ?_, by repeat (first | exact Below.refl _ _ | exact below_new _ | (refine below_comp ?_ (by assumption)) | (refine below_comp ?_ (below_new _)))⟩
      exact (decide_eq_false (fun hh => c2 hh.2.2.2.1)).symm
  by_cases c3 : 0 ≤ xFirstPort ∧ xFirstPort ≤ xLastPort
  case neg =>
    have Y0 := Lib.hid fun W => impl_in_yes (xPriority) (0) (1000) W c0
    have Y1 := Lib.hid fun W => impl_in_yes (xSrcIp) (0) (4294967295) W c1
    have Y2 := Lib.hid fun W => impl_in_yes (xSrcBits) (0) (32) W c2
    have Y3 := Lib.hid fun W => impl_in_no (xFirstPort) (0) (xLastPort) W c3
    skip
    go_enter Try.func146, Try.ntmps146
    go_wp2_with (first
      | (go_at_call_of 110 (Value.int IntKind.i64 xPriority); refine (Y0.out _).mono ?_; rintro e w' ⟨rfl, rfl⟩)
      | (go_at_call_of 110 (Value.int IntKind.i64 xSrcIp); refine (Y1.out _).mono ?_; rintro e w' ⟨rfl, rfl⟩)
      | (go_at_call_of 110 (Value.int IntKind.i64 xSrcBits); refine (Y2.out _).mono ?_; rintro e w' ⟨rfl, rfl⟩)
      | (go_at_call_of 110 (Value.int IntKind.i64 xFirstPort); refine (Y3.out _).mono ?_; rintro e w' ⟨rfl, rfl⟩))
    all_goals
      go_ret
      refine ⟨ret_bool ?_, by repeat (first | exact Below.refl _ _ | exact below_new _ | (refine below_comp ?_ (by assumption)) | (refine below_comp ?_ (below_new _)))⟩
      exact (decide_eq_false (fun hh => c3 ⟨hh.2.2.2.2.1.1, hh.2.2.2.2.1.2.1⟩)).symm
  by_cases c4 : 0 ≤ xLastPort ∧ xLastPort ≤ 65535
  case neg =>
    have Y0 := Lib.hid fun W => impl_in_yes (xPriority) (0) (1000) W c0
    have Y1 := Lib.hid fun W => impl_in_yes (xSrcIp) (0) (4294967295) W c1
    have Y2 := Lib.hid fun W => impl_in_yes (xSrcBits) (0) (32) W c2
    have Y3 := Lib.hid fun W => impl_in_yes (xFirstPort) (0) (xLastPort) W c3
    have Y4 := Lib.hid fun W => impl_in_no (xLastPort) (0) (65535) W c4
    skip
    go_enter Try.func146, Try.ntmps146
    go_wp2_with (first
      | (go_at_call_of 110 (Value.int IntKind.i64 xPriority); refine (Y0.out _).mono ?_; rintro e w' ⟨rfl, rfl⟩)
      | (go_at_call_of 110 (Value.int IntKind.i64 xSrcIp); refine (Y1.out _).mono ?_; rintro e w' ⟨rfl, rfl⟩)
      | (go_at_call_of 110 (Value.int IntKind.i64 xSrcBits); refine (Y2.out _).mono ?_; rintro e w' ⟨rfl, rfl⟩)
      | (go_at_call_of 110 (Value.int IntKind.i64 xFirstPort); refine (Y3.out _).mono ?_; rintro e w' ⟨rfl, rfl⟩)
      | (go_at_call_of 110 (Value.int IntKind.i64 xLastPort); refine (Y4.out _).mono ?_; rintro e w' ⟨rfl, rfl⟩))
    all_goals
      go_ret
      refine ⟨ret_bool ?_, by repeat (first | exact Below.refl _ _ | exact below_new _ | (refine below_comp ?_ (by assumption)) | (refine below_comp ?_ (below_new _)))⟩
      exact (decide_eq_false (fun hh => c4 ⟨Int.le_trans hh.2.2.2.2.1.1 hh.2.2.2.2.1.2.1, hh.2.2.2.2.1.2.2⟩)).symm
  by_cases c5 : -2 ≤ xVlan ∧ xVlan ≤ 4095
  case neg =>
    have Y0 := Lib.hid fun W => impl_in_yes (xPriority) (0) (1000) W c0
    have Y1 := Lib.hid fun W => impl_in_yes (xSrcIp) (0) (4294967295) W c1
    have Y2 := Lib.hid fun W => impl_in_yes (xSrcBits) (0) (32) W c2
    have Y3 := Lib.hid fun W => impl_in_yes (xFirstPort) (0) (xLastPort) W c3
    have Y4 := Lib.hid fun W => impl_in_yes (xLastPort) (0) (65535) W c4
    have Y5 := Lib.hid fun W => impl_in_no (xVlan) (-2) (4095) W c5
    skip
    go_enter Try.func146, Try.ntmps146
    go_wp2_with (first
      | (go_at_call_of 110 (Value.int IntKind.i64 xPriority); refine (Y0.out _).mono ?_; rintro e w' ⟨rfl, rfl⟩)
      | (go_at_call_of 110 (Value.int IntKind.i64 xSrcIp); refine (Y1.out _).mono ?_; rintro e w' ⟨rfl, rfl⟩)
      | (go_at_call_of 110 (Value.int IntKind.i64 xSrcBits); refine (Y2.out _).mono ?_; rintro e w' ⟨rfl, rfl⟩)
      | (go_at_call_of 110 (Value.int IntKind.i64 xFirstPort); refine (Y3.out _).mono ?_; rintro e w' ⟨rfl, rfl⟩)
      | (go_at_call_of 110 (Value.int IntKind.i64 xLastPort); refine (Y4.out _).mono ?_; rintro e w' ⟨rfl, rfl⟩)
      | (go_at_call_of 110 (Value.int IntKind.i64 xVlan); refine (Y5.out _).mono ?_; rintro e w' ⟨rfl, rfl⟩))
    all_goals
      go_ret
      refine ⟨ret_bool ?_, by repeat (first | exact Below.refl _ _ | exact below_new _ | (refine below_comp ?_ (by assumption)) | (refine below_comp ?_ (below_new _)))⟩
      exact (decide_eq_false (fun hh => c5 hh.2.2.2.2.2.1)).symm
  have Y0 := Lib.hid fun W => impl_in_yes (xPriority) (0) (1000) W c0
  have Y1 := Lib.hid fun W => impl_in_yes (xSrcIp) (0) (4294967295) W c1
  have Y2 := Lib.hid fun W => impl_in_yes (xSrcBits) (0) (32) W c2
  have Y3 := Lib.hid fun W => impl_in_yes (xFirstPort) (0) (xLastPort) W c3
  have Y4 := Lib.hid fun W => impl_in_yes (xLastPort) (0) (65535) W c4
  have Y5 := Lib.hid fun W => impl_in_yes (xVlan) (-2) (4095) W c5
  obtain ⟨C, HC⟩ : ∃ C : Bool, Hid (C = decide (RuleM.Act ⟨xPriority, 0, xSrcIp, xSrcBits, xFirstPort, xLastPort, xVlan, xAction, xQueue⟩)) := ⟨_, Lib.hid rfl⟩
  have YA := Lib.hid fun W => impl_actionok ⟨xPriority, 0, xSrcIp, xSrcBits, xFirstPort, xLastPort, xVlan, xAction, xQueue⟩ W
  rw [← HC.out] at YA
  unfold RuleM.val at YA
  dsimp only at YA
  skip
  go_enter Try.func146, Try.ntmps146
  go_wp2_with (first
    | (go_at_call_of 110 (Value.int IntKind.i64 xPriority); refine (Y0.out _).mono ?_; rintro e w' ⟨rfl, rfl⟩)
    | (go_at_call_of 110 (Value.int IntKind.i64 xSrcIp); refine (Y1.out _).mono ?_; rintro e w' ⟨rfl, rfl⟩)
    | (go_at_call_of 110 (Value.int IntKind.i64 xSrcBits); refine (Y2.out _).mono ?_; rintro e w' ⟨rfl, rfl⟩)
    | (go_at_call_of 110 (Value.int IntKind.i64 xFirstPort); refine (Y3.out _).mono ?_; rintro e w' ⟨rfl, rfl⟩)
    | (go_at_call_of 110 (Value.int IntKind.i64 xLastPort); refine (Y4.out _).mono ?_; rintro e w' ⟨rfl, rfl⟩)
    | (go_at_call_of 110 (Value.int IntKind.i64 xVlan); refine (Y5.out _).mono ?_; rintro e w' ⟨rfl, rfl⟩)
    | (go_at_call 172; refine (YA.out _).mono ?_; rintro e w1 ⟨rfl, hb1⟩))
  all_goals
    go_ret
    refine ⟨ret_bool ?_, by repeat (first | exact Below.refl _ _ | exact below_new _ | (refine below_comp ?_ (by assumption)) | (refine below_comp ?_ (below_new _)))⟩
    rw [HC.out]; exact decide_eq_decide.2 ⟨fun hh => ⟨c0, .inl rfl, c1, c2, ⟨c3.1, c3.2, c4.2⟩, c5, hh⟩, fun hh => hh.2.2.2.2.2.2⟩
set_option maxHeartbeats 4000000 in
set_option maxRecDepth 100000 in
theorem impl_ruleok_kind (e : RuleM) (w : World) (hk : ¬ e.xKind = 0) :
    Calls Try.prog 146 #[e.val] w fun r w' => r = .returned (.bool (decide e.Ok)) ∧ Below w.heap.size w w' := by
  obtain ⟨xPriority, xKind, xSrcIp, xSrcBits, xFirstPort, xLastPort, xVlan, xAction, xQueue⟩ := e
  unfold RuleM.val
  dsimp only at hk ⊢
  by_cases c0 : 0 ≤ xPriority ∧ xPriority ≤ 1000
  case neg =>
    have Y0 := Lib.hid fun W => impl_in_no (xPriority) (0) (1000) W c0
    skip
    go_enter Try.func146, Try.ntmps146
    go_wp2_with (first
      | (go_at_call_of 110 (Value.int IntKind.i64 xPriority); refine (Y0.out _).mono ?_; rintro e w' ⟨rfl, rfl⟩))
    all_goals
      go_ret
      refine ⟨ret_bool ?_, by repeat (first | exact Below.refl _ _ | exact below_new _ | (refine below_comp ?_ (by assumption)) | (refine below_comp ?_ (below_new _)))⟩
      exact (decide_eq_false (fun hh => c0 hh.1)).symm
  by_cases c1 : xKind = 6 ∨ xKind = 17
  case neg =>
    have Y0 := Lib.hid fun W => impl_in_yes (xPriority) (0) (1000) W c0
    have YL := Lib.hid fun W => impl_layout xKind W
    rw [if_neg (fun h => c1 (.inl h)), if_neg (fun h => c1 (.inr h))] at YL
    skip
    go_enter Try.func146, Try.ntmps146
    go_wp2_with (first
      | (go_at_call_of 110 (Value.int IntKind.i64 xPriority); refine (Y0.out _).mono ?_; rintro e w' ⟨rfl, rfl⟩)
      | (go_at_call 171; refine (YL.out _).mono ?_; rintro e w' ⟨rfl, rfl⟩))
    all_goals
      go_ret
      refine ⟨ret_bool ?_, by repeat (first | exact Below.refl _ _ | exact below_new _ | (refine below_comp ?_ (by assumption)) | (refine below_comp ?_ (below_new _)))⟩
      exact (decide_eq_false (fun hh => c1 (hh.2.1.resolve_left hk))).symm
  by_cases c2 : 0 ≤ xSrcIp ∧ xSrcIp ≤ 4294967295
  case neg =>
    have Y0 := Lib.hid fun W => impl_in_yes (xPriority) (0) (1000) W c0
    obtain ⟨L, HL, hL⟩ : ∃ L : Int, Hid (L = (if xKind = 6 then 1 else if xKind = 17 then 2 else 0)) ∧ (L != 0) = true := ⟨_, Lib.hid rfl, by rcases c1 with h | h <;> subst h <;> rfl⟩
    have YL := Lib.hid fun W => impl_layout xKind W
    rw [← HL.out] at YL
    have Y2 := Lib.hid fun W => impl_in_no (xSrcIp) (0) (4294967295) W c2
    skip
    go_enter Try.func146, Try.ntmps146
    go_wp2_with (first
      | (go_at_call_of 110 (Value.int IntKind.i64 xPriority); refine (Y0.out _).mono ?_; rintro e w' ⟨rfl, rfl⟩)
      | (go_at_call 171; refine (YL.out _).mono ?_; rintro e w' ⟨rfl, rfl⟩)
      | (go_at_call_of 110 (Value.int IntKind.i64 xSrcIp); refine (Y2.out _).mono ?_; rintro e w' ⟨rfl, rfl⟩))
    all_goals
      go_ret
      refine ⟨ret_bool ?_, by repeat (first | exact Below.refl _ _ | exact below_new _ | (refine below_comp ?_ (by assumption)) | (refine below_comp ?_ (below_new _)))⟩
      exact (decide_eq_false (fun hh => c2 hh.2.2.1)).symm
  by_cases c3 : 0 ≤ xSrcBits ∧ xSrcBits ≤ 32
  case neg =>
    have Y0 := Lib.hid fun W => impl_in_yes (xPriority) (0) (1000) W c0
    obtain ⟨L, HL, hL⟩ : ∃ L : Int, Hid (L = (if xKind = 6 then 1 else if xKind = 17 then 2 else 0)) ∧ (L != 0) = true := ⟨_, Lib.hid rfl, by rcases c1 with h | h <;> subst h <;> rfl⟩
    have YL := Lib.hid fun W => impl_layout xKind W
    rw [← HL.out] at YL
    have Y2 := Lib.hid fun W => impl_in_yes (xSrcIp) (0) (4294967295) W c2
    have Y3 := Lib.hid fun W => impl_in_no (xSrcBits) (0) (32) W c3
    skip
    go_enter Try.func146, Try.ntmps146
    go_wp2_with (first
      | (go_at_call_of 110 (Value.int IntKind.i64 xPriority); refine (Y0.out _).mono ?_; rintro e w' ⟨rfl, rfl⟩)
      | (go_at_call 171; refine (YL.out _).mono ?_; rintro e w' ⟨rfl, rfl⟩)
      | (go_at_call_of 110 (Value.int IntKind.i64 xSrcIp); refine (Y2.out _).mono ?_; rintro e w' ⟨rfl, rfl⟩)
      | (go_at_call_of 110 (Value.int IntKind.i64 xSrcBits); refine (Y3.out _).mono ?_; rintro e w' ⟨rfl, rfl⟩))
    all_goals
      go_ret
      refine ⟨ret_bool ?_, by repeat (first | exact Below.refl _ _ | exact below_new _ | (refine below_comp ?_ (by assumption)) | (refine below_comp ?_ (below_new _)))⟩
      exact (decide_eq_false (fun hh => c3 hh.2.2.2.1)).symm
  by_cases c4 : 0 ≤ xFirstPort ∧ xFirstPort ≤ xLastPort
  case neg =>
    have Y0 := Lib.hid fun W => impl_in_yes (xPriority) (0) (1000) W c0
    obtain ⟨L, HL, hL⟩ : ∃ L : Int, Hid (L = (if xKind = 6 then 1 else if xKind = 17 then 2 else 0)) ∧ (L != 0) = true := ⟨_, Lib.hid rfl, by rcases c1 with h | h <;> subst h <;> rfl⟩
    have YL := Lib.hid fun W => impl_layout xKind W
    rw [← HL.out] at YL
    have Y2 := Lib.hid fun W => impl_in_yes (xSrcIp) (0) (4294967295) W c2
    have Y3 := Lib.hid fun W => impl_in_yes (xSrcBits) (0) (32) W c3
    have Y4 := Lib.hid fun W => impl_in_no (xFirstPort) (0) (xLastPort) W c4
    skip
    go_enter Try.func146, Try.ntmps146
    go_wp2_with (first
      | (go_at_call_of 110 (Value.int IntKind.i64 xPriority); refine (Y0.out _).mono ?_; rintro e w' ⟨rfl, rfl⟩)
      | (go_at_call 171; refine (YL.out _).mono ?_; rintro e w' ⟨rfl, rfl⟩)
      | (go_at_call_of 110 (Value.int IntKind.i64 xSrcIp); refine (Y2.out _).mono ?_; rintro e w' ⟨rfl, rfl⟩)
      | (go_at_call_of 110 (Value.int IntKind.i64 xSrcBits); refine (Y3.out _).mono ?_; rintro e w' ⟨rfl, rfl⟩)
      | (go_at_call_of 110 (Value.int IntKind.i64 xFirstPort); refine (Y4.out _).mono ?_; rintro e w' ⟨rfl, rfl⟩))
    all_goals
      go_ret
      refine ⟨ret_bool ?_, by repeat (first | exact Below.refl _ _ | exact below_new _ | (refine below_comp ?_ (by assumption)) | (refine below_comp ?_ (below_new _)))⟩
      exact (decide_eq_false (fun hh => c4 ⟨hh.2.2.2.2.1.1, hh.2.2.2.2.1.2.1⟩)).symm
  by_cases c5 : 0 ≤ xLastPort ∧ xLastPort ≤ 65535
  case neg =>
    have Y0 := Lib.hid fun W => impl_in_yes (xPriority) (0) (1000) W c0
    obtain ⟨L, HL, hL⟩ : ∃ L : Int, Hid (L = (if xKind = 6 then 1 else if xKind = 17 then 2 else 0)) ∧ (L != 0) = true := ⟨_, Lib.hid rfl, by rcases c1 with h | h <;> subst h <;> rfl⟩
    have YL := Lib.hid fun W => impl_layout xKind W
    rw [← HL.out] at YL
    have Y2 := Lib.hid fun W => impl_in_yes (xSrcIp) (0) (4294967295) W c2
    have Y3 := Lib.hid fun W => impl_in_yes (xSrcBits) (0) (32) W c3
    have Y4 := Lib.hid fun W => impl_in_yes (xFirstPort) (0) (xLastPort) W c4
    have Y5 := Lib.hid fun W => impl_in_no (xLastPort) (0) (65535) W c5
    skip
    go_enter Try.func146, Try.ntmps146
    go_wp2_with (first
      | (go_at_call_of 110 (Value.int IntKind.i64 xPriority); refine (Y0.out _).mono ?_; rintro e w' ⟨rfl, rfl⟩)
      | (go_at_call 171; refine (YL.out _).mono ?_; rintro e w' ⟨rfl, rfl⟩)
      | (go_at_call_of 110 (Value.int IntKind.i64 xSrcIp); refine (Y2.out _).mono ?_; rintro e w' ⟨rfl, rfl⟩)
      | (go_at_call_of 110 (Value.int IntKind.i64 xSrcBits); refine (Y3.out _).mono ?_; rintro e w' ⟨rfl, rfl⟩)
      | (go_at_call_of 110 (Value.int IntKind.i64 xFirstPort); refine (Y4.out _).mono ?_; rintro e w' ⟨rfl, rfl⟩)
      | (go_at_call_of 110 (Value.int IntKind.i64 xLastPort); refine (Y5.out _).mono ?_; rintro e w' ⟨rfl, rfl⟩))
    all_goals
      go_ret
      refine ⟨ret_bool ?_, by repeat (first | exact Below.refl _ _ | exact below_new _ | (refine below_comp ?_ (by assumption)) | (refine below_comp ?_ (below_new _)))⟩
      exact (decide_eq_false (fun hh => c5 ⟨Int.le_trans hh.2.2.2.2.1.1 hh.2.2.2.2.1.2.1, hh.2.2.2.2.1.2.2⟩)).symm
  by_cases c6 : -2 ≤ xVlan ∧ xVlan ≤ 4095
  case neg =>
    have Y0 := Lib.hid fun W => impl_in_yes (xPriority) (0) (1000) W c0
    obtain ⟨L, HL, hL⟩ : ∃ L : Int, Hid (L = (if xKind = 6 then 1 else if xKind = 17 then 2 else 0)) ∧ (L != 0) = true := ⟨_, Lib.hid rfl, by rcases c1 with h | h <;> subst h <;> rfl⟩
    have YL := Lib.hid fun W => impl_layout xKind W
    rw [← HL.out] at YL
    have Y2 := Lib.hid fun W => impl_in_yes (xSrcIp) (0) (4294967295) W c2
    have Y3 := Lib.hid fun W => impl_in_yes (xSrcBits) (0) (32) W c3
    have Y4 := Lib.hid fun W => impl_in_yes (xFirstPort) (0) (xLastPort) W c4
    have Y5 := Lib.hid fun W => impl_in_yes (xLastPort) (0) (65535) W c5
    have Y6 := Lib.hid fun W => impl_in_no (xVlan) (-2) (4095) W c6
    skip
    go_enter Try.func146, Try.ntmps146
    go_wp2_with (first
      | (go_at_call_of 110 (Value.int IntKind.i64 xPriority); refine (Y0.out _).mono ?_; rintro e w' ⟨rfl, rfl⟩)
      | (go_at_call 171; refine (YL.out _).mono ?_; rintro e w' ⟨rfl, rfl⟩)
      | (go_at_call_of 110 (Value.int IntKind.i64 xSrcIp); refine (Y2.out _).mono ?_; rintro e w' ⟨rfl, rfl⟩)
      | (go_at_call_of 110 (Value.int IntKind.i64 xSrcBits); refine (Y3.out _).mono ?_; rintro e w' ⟨rfl, rfl⟩)
      | (go_at_call_of 110 (Value.int IntKind.i64 xFirstPort); refine (Y4.out _).mono ?_; rintro e w' ⟨rfl, rfl⟩)
      | (go_at_call_of 110 (Value.int IntKind.i64 xLastPort); refine (Y5.out _).mono ?_; rintro e w' ⟨rfl, rfl⟩)
      | (go_at_call_of 110 (Value.int IntKind.i64 xVlan); refine (Y6.out _).mono ?_; rintro e w' ⟨rfl, rfl⟩))
    all_goals
      go_ret
      refine ⟨ret_bool ?_, by repeat (first | exact Below.refl _ _ | exact below_new _ | (refine below_comp ?_ (by assumption)) | (refine below_comp ?_ (below_new _)))⟩
      exact (decide_eq_false (fun hh => c6 hh.2.2.2.2.2.1)).symm
  have Y0 := Lib.hid fun W => impl_in_yes (xPriority) (0) (1000) W c0
  obtain ⟨L, HL, hL⟩ : ∃ L : Int, Hid (L = (if xKind = 6 then 1 else if xKind = 17 then 2 else 0)) ∧ (L != 0) = true := ⟨_, Lib.hid rfl, by rcases c1 with h | h <;> subst h <;> rfl⟩
  have YL := Lib.hid fun W => impl_layout xKind W
  rw [← HL.out] at YL
  have Y2 := Lib.hid fun W => impl_in_yes (xSrcIp) (0) (4294967295) W c2
  have Y3 := Lib.hid fun W => impl_in_yes (xSrcBits) (0) (32) W c3
  have Y4 := Lib.hid fun W => impl_in_yes (xFirstPort) (0) (xLastPort) W c4
  have Y5 := Lib.hid fun W => impl_in_yes (xLastPort) (0) (65535) W c5
  have Y6 := Lib.hid fun W => impl_in_yes (xVlan) (-2) (4095) W c6
  obtain ⟨C, HC⟩ : ∃ C : Bool, Hid (C = decide (RuleM.Act ⟨xPriority, xKind, xSrcIp, xSrcBits, xFirstPort, xLastPort, xVlan, xAction, xQueue⟩)) := ⟨_, Lib.hid rfl⟩
  have YA := Lib.hid fun W => impl_actionok ⟨xPriority, xKind, xSrcIp, xSrcBits, xFirstPort, xLastPort, xVlan, xAction, xQueue⟩ W
  rw [← HC.out] at YA
  unfold RuleM.val at YA
  dsimp only at YA
  skip
  go_enter Try.func146, Try.ntmps146
  go_wp2_with (first
    | (go_at_call_of 110 (Value.int IntKind.i64 xPriority); refine (Y0.out _).mono ?_; rintro e w' ⟨rfl, rfl⟩)
    | (go_at_call 171; refine (YL.out _).mono ?_; rintro e w' ⟨rfl, rfl⟩)
    | (go_at_call_of 110 (Value.int IntKind.i64 xSrcIp); refine (Y2.out _).mono ?_; rintro e w' ⟨rfl, rfl⟩)
    | (go_at_call_of 110 (Value.int IntKind.i64 xSrcBits); refine (Y3.out _).mono ?_; rintro e w' ⟨rfl, rfl⟩)
    | (go_at_call_of 110 (Value.int IntKind.i64 xFirstPort); refine (Y4.out _).mono ?_; rintro e w' ⟨rfl, rfl⟩)
    | (go_at_call_of 110 (Value.int IntKind.i64 xLastPort); refine (Y5.out _).mono ?_; rintro e w' ⟨rfl, rfl⟩)
    | (go_at_call_of 110 (Value.int IntKind.i64 xVlan); refine (Y6.out _).mono ?_; rintro e w' ⟨rfl, rfl⟩)
    | (go_at_call 172; refine (YA.out _).mono ?_; rintro e w1 ⟨rfl, hb1⟩))
  all_goals
    go_ret
    refine ⟨ret_bool ?_, by repeat (first | exact Below.refl _ _ | exact below_new _ | (refine below_comp ?_ (by assumption)) | (refine below_comp ?_ (below_new _)))⟩
    rw [HC.out]; exact decide_eq_decide.2 ⟨fun hh => ⟨c0, .inr c1, c2, c3, ⟨c4.1, c4.2, c5.2⟩, c6, hh⟩, fun hh => hh.2.2.2.2.2.2⟩

theorem impl_ruleok (e : RuleM) (w : World) :
    Calls Try.prog 146 #[e.val] w fun r w' => r = .returned (.bool (decide e.Ok)) ∧ Below w.heap.size w w' :=
  (Decidable.em (e.xKind = 0)).elim (impl_ruleok_zero e w) (impl_ruleok_kind e w)

end Go.Proofs.Ytfbnjemmmgobkaa
