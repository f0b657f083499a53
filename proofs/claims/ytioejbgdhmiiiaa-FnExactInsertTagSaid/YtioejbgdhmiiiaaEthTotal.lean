/- BuildEth of both sides, at every frame. -/
import Derived.Test.YtioejbgdhmiiiaaEthBuildB
namespace Go.Proofs.Ytioejbgdhmiiiaa
open Go.RowKit
set_option linter.unusedSimpArgs false
theorem built_yes {e : EthM} (h : e.Ok) : e.built = e.bytes := if_pos h
theorem built_no {e : EthM} (h : ¬ e.Ok) : e.built = ⟨#[]⟩ := if_neg h
set_option maxHeartbeats 2000000 in
theorem spec_build_no (e : EthM) (w : World) (h : ¬ e.Ok) :
    Calls Try.prog 47 #[e.val] w fun r w' => r = .returned (.tuple #[.string ⟨#[]⟩, .bool false]) ∧ Below w.heap.size w w' := by
  have HV : Hid (∀ w1, Calls Try.prog 44 #[e.val] w1 fun r w' => r = .returned (.bool false) ∧ Below w1.heap.size w1 w') := Lib.hid fun w1 => by have := spec_ethok e w1; rwa [decide_eq_false h] at this
  clear h
  obtain ⟨d, s, v, t, b⟩ := e
  unfold EthM.val at *
  dsimp only at *
  go_enter Try.func47, Try.ntmps47
  go_wp2_with (go_at_call 44; refine (HV.out _).mono ?_; rintro e w1 ⟨rfl, hb1⟩)
  go_ret2
  exact ⟨rfl, below_comp (below_new _) hb1⟩
set_option maxHeartbeats 2000000 in
theorem impl_build_no (e : EthM) (w : World) (h : ¬ e.Ok) :
    Calls Try.prog 35 #[e.val] w fun r w' => r = .returned (.tuple #[.string ⟨#[]⟩, .bool false]) ∧ Below w.heap.size w w' := by
  have HV : Hid (∀ w1, Calls Try.prog 36 #[e.val] w1 fun r w' => r = .returned (.bool false) ∧ Below w1.heap.size w1 w') := Lib.hid fun w1 => by have := impl_ethok e w1; rwa [decide_eq_false h] at this
  clear h
  obtain ⟨d, s, v, t, b⟩ := e
  unfold EthM.val at *
  dsimp only at *
  go_enter Try.func35, Try.ntmps35
  go_wp2_with (go_at_call 36; refine (HV.out _).mono ?_; rintro e w1 ⟨rfl, hb1⟩)
  go_ret2
  exact ⟨rfl, below_comp (below_new _) hb1⟩
theorem spec_build (e : EthM) (w : World) :
    Calls Try.prog 47 #[e.val] w fun r w' => r = .returned (.tuple #[.string e.built, .bool (decide e.Ok)]) ∧ Below w.heap.size w w' := by
  by_cases h : e.Ok
  · rw [built_yes h, decide_eq_true h]; exact spec_build_yes e w h
  · rw [built_no h, decide_eq_false h]; exact spec_build_no e w h
theorem impl_build (e : EthM) (w : World) :
    Calls Try.prog 35 #[e.val] w fun r w' => r = .returned (.tuple #[.string e.built, .bool (decide e.Ok)]) ∧ Below w.heap.size w w' := by
  by_cases h : e.Ok
  · rw [built_yes h, decide_eq_true h]; exact impl_build_yes e w h
  · rw [built_no h, decide_eq_false h]; exact impl_build_no e w h
end Go.Proofs.Ytioejbgdhmiiiaa
