/- QueueOk of both sides. -/
import Derived.Test.YtncpnoloamebnabRingOkB
import Derived.Deep.QuietTactic
import Derived.BigQuiet
namespace Go.Proofs.Ytncpnoloamebnab
open Go.RowKit
set_option linter.unusedSimpArgs false
set_option linter.unusedVariables false

set_option maxHeartbeats 4000000 in
set_option maxRecDepth 100000 in
theorem spec_queueok (base size count : Int) (w : World) :
    Calls Try.prog 25 #[.agg #[.int .i64 base, .int .i64 size, .int .i64 count]] w fun r w' => r = .returned (.bool (decide (CompletionQueueM.Ok ⟨base, size, count⟩))) ∧ Below w.heap.size w w' := by
  by_cases c : (0 ≤ base ∧ base ≤ 130944) ∧ Pow2to16 size
  case neg =>
    rw [decide_eq_false (fun hh => c ⟨hh.1, hh.2.1⟩)]
    by_cases c0 : 0 ≤ base ∧ base ≤ 130944
    case neg =>
      have HS := Lib.hid fun W => spec_in_no base 0 130944 W c0
      clear c c0
      go_enter Try.func25, Try.ntmps25
      go_wp2_with (go_at_call 62; refine (HS.out _).mono ?_; rintro e w' ⟨rfl, rfl⟩)
      go_ret
      exact ⟨rfl, below_new _⟩
    have HS := Lib.hid fun W => spec_in_yes base 0 130944 W c0
    have HZ := Lib.hid fun W => size_no size W (fun h => c ⟨c0, h⟩)
    clear c c0
    go_enter Try.func25, Try.ntmps25
    go_wp2_with (first
      | (go_at_call 62; refine (HS.out _).mono ?_; rintro e w' ⟨rfl, rfl⟩)
      | (go_at_call 63; refine (HZ.out _).mono ?_; rintro e w1 ⟨rfl, hb1⟩; obtain ⟨hcell, hfr, _⟩ := bcell hb1))
    go_ret
    exact ⟨rfl, below_comp (below_new _) hb1⟩
  have HS := Lib.hid fun W => spec_in_yes base 0 130944 W c.1
  have HZ := Lib.hid fun W => size_yes size W c.2
  obtain ⟨B, HB⟩ : ∃ B : Bool, Hid (B = decide (CompletionQueueM.Ok ⟨base, size, count⟩)) := ⟨_, Lib.hid rfl⟩
  rw [← HB.out]
  have HC : Hid (∀ W, Calls Try.prog 62 #[.int .i64 count, .int .i64 0, .int .i64 (2 * size - 1)] W fun e w' => e = .returned (.bool B) ∧ W = w') := Lib.hid fun W => by
    have := spec_in count 0 (2 * size - 1) W
    rwa [show decide (0 ≤ count ∧ count ≤ 2 * size - 1) = B by rw [HB.out]; exact decide_eq_decide.2 ⟨fun hh => ⟨c.1, c.2, hh⟩, fun hh => hh.2.2⟩] at this
  have hsz : 2 ≤ size ∧ size ≤ 16 := by rcases c.2 with h | h | h | h <;> omega
  clear c
  go_enter Try.func25, Try.ntmps25
  go_wp2_with (first
    | (go_at_call_of 62 (Value.int IntKind.i64 base); refine (HS.out _).mono ?_; rintro e w' ⟨rfl, rfl⟩)
    | (go_at_call 63; refine (HZ.out _).mono ?_; rintro e w1 ⟨rfl, hb1⟩; obtain ⟨hcell, hfr, _⟩ := bcell hb1)
    | (go_at_call 62; refine (HC.out _).mono ?_; rintro e w' ⟨rfl, rfl⟩))
  go_ret
  exact ⟨rfl, below_comp (below_new _) hb1⟩

set_option maxHeartbeats 4000000 in
set_option maxRecDepth 100000 in
theorem impl_queueok (base size count : Int) (w : World) :
    Calls Try.prog 27 #[.agg #[.int .i64 base, .int .i64 size, .int .i64 count]] w fun r w' => r = .returned (.bool (decide (CompletionQueueM.Ok ⟨base, size, count⟩))) ∧ Below w.heap.size w w' := by
  by_cases c : (0 ≤ base ∧ base ≤ 130944) ∧ Pow2to16 size
  case neg =>
    have HS := Lib.hid fun W => slots_no base size W c
    rw [decide_eq_false (fun hh => c ⟨hh.1, hh.2.1⟩)]
    clear c
    go_enter Try.func27, Try.ntmps27
    go_wp2_with (first
      | (go_at_call 69; refine (HS.out _).mono ?_; rintro e w1 ⟨rfl, hb1⟩; obtain ⟨hcell, hfr, _⟩ := bcell hb1)
      | (go_at_call 70; refine (impl_in _ _ _ _).mono ?_; rintro e w' ⟨rfl, rfl⟩))
    go_ret
    exact ⟨rfl, below_comp (below_new _) hb1⟩
  have HS := Lib.hid fun W => slots_yes base size W c
  obtain ⟨B, HB⟩ : ∃ B : Bool, Hid (B = decide (CompletionQueueM.Ok ⟨base, size, count⟩)) := ⟨_, Lib.hid rfl⟩
  rw [← HB.out]
  have HC : Hid (∀ W, Calls Try.prog 70 #[.int .i64 count, .int .i64 0, .int .i64 (2 * size - 1)] W fun e w' => e = .returned (.bool B) ∧ W = w') := Lib.hid fun W => by
    have := impl_in count 0 (2 * size - 1) W
    rwa [show decide (0 ≤ count ∧ count ≤ 2 * size - 1) = B by rw [HB.out]; exact decide_eq_decide.2 ⟨fun hh => ⟨c.1, c.2, hh⟩, fun hh => hh.2.2⟩] at this
  have hsz : 2 ≤ size ∧ size ≤ 16 := by rcases c.2 with h | h | h | h <;> omega
  clear c
  go_enter Try.func27, Try.ntmps27
  go_wp2_with (first
    | (go_at_call 69; refine (HS.out _).mono ?_; rintro e w1 ⟨rfl, hb1⟩; obtain ⟨hcell, hfr, _⟩ := bcell hb1)
    | (go_at_call 70; refine (HC.out _).mono ?_; rintro e w' ⟨rfl, rfl⟩))
  go_ret
  exact ⟨rfl, below_comp (below_new _) hb1⟩

end Go.Proofs.Ytncpnoloamebnab
