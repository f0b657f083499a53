/- HomeSlot of both sides. -/
import Derived.Test.YtkmebahjnnnckaaKit
import Derived.Test.YtkmebahjnnnckaaFlatOk
import Derived.Deep.QuietTactic
import Derived.BigQuiet
namespace Go.Proofs.Ytkmebahjnnnckaa
open Go.RowKit
set_option linter.unusedSimpArgs false
set_option linter.unusedVariables false

def FlowM.home (f : FlowM) : Int := (f.kind + f.sip + f.dip + f.sport + f.dport) % 8
theorem wrap64_mod8 (x : Int) : RowKit.wrap64 x % 8 = x % 8 := by rw [wrap64_eq]; exact wrap_mod x 3 (by decide)
theorem and7 (x : Int) : bits .and .i64 x 7 = x % 8 := and_low x 3 (by decide)
set_option maxHeartbeats 4000000 in
set_option maxRecDepth 100000 in
theorem impl_homeslot (f : FlowM) (w : World) :
    Calls Try.prog 239 #[f.val] w fun r w' => r = .returned (.int .i64 f.home) ∧ Below w.heap.size w w' := by
  obtain ⟨k, a, b, c, d⟩ := f
  obtain ⟨R, HR⟩ : ∃ R, Hid (R = FlowM.home ⟨k, a, b, c, d⟩) := ⟨_, Lib.hid rfl⟩
  rw [← HR.out]
  unfold FlowM.val
  dsimp only
  go_enter Try.func239, Try.ntmps239
  go_wp2
  go_ret
  refine ⟨ret_int ?_, below_new _⟩
  rw [HR.out]
  unfold FlowM.home
  dsimp only
  have h1 := wrap64_mod8 (k + a)
  have h2 := wrap64_mod8 (RowKit.wrap64 (k + a) + b)
  have h3 := wrap64_mod8 (RowKit.wrap64 (RowKit.wrap64 (k + a) + b) + c)
  have h4 := wrap64_mod8 (RowKit.wrap64 (RowKit.wrap64 (RowKit.wrap64 (k + a) + b) + c) + d)
  rw [and7]
  omega

set_option maxHeartbeats 4000000 in
set_option maxRecDepth 100000 in
theorem spec_homeslot (f : FlowM) (w : World) :
    Calls Try.prog 155 #[f.val] w fun r w' => r = .returned (.int .i64 f.home) ∧ Below w.heap.size w w' := by
  obtain ⟨k, a, b, c, d⟩ := f
  obtain ⟨R, HR⟩ : ∃ R, Hid (R = FlowM.home ⟨k, a, b, c, d⟩) := ⟨_, Lib.hid rfl⟩
  rw [← HR.out]
  unfold FlowM.val
  dsimp only
  go_enter Try.func155, Try.ntmps155
  go_wp2
  have e1 := and7 k
  have e2 := and7 a
  have e3 := and7 b
  have e4 := and7 c
  have e5 := and7 d
  go_loop [3, 5] (fun n i => (n = .int .i64 0 ∧ i = .int .i64 0) ∨ (n = .int .i64 (k % 8) ∧ i = .int .i64 1) ∨ (n = .int .i64 (k % 8 + a % 8) ∧ i = .int .i64 2) ∨ (n = .int .i64 (k % 8 + a % 8 + b % 8) ∧ i = .int .i64 3) ∨
    (n = .int .i64 (k % 8 + a % 8 + b % 8 + c % 8) ∧ i = .int .i64 4) ∨ (n = .int .i64 (k % 8 + a % 8 + b % 8 + c % 8 + d % 8) ∧ i = .int .i64 5)) (fun _ i => 6 - (intOf i).toNat)
  case atStart => exact .inl ⟨rfl, rfl⟩
  case round =>
    rcases hrel with ⟨rfl, rfl⟩ | ⟨rfl, rfl⟩ | ⟨rfl, rfl⟩ | ⟨rfl, rfl⟩ | ⟨rfl, rfl⟩ | ⟨rfl, rfl⟩
    case inr.inr.inr.inr.inr =>
      go_wp2
      go_ret
      refine ⟨ret_int ?_, ?_⟩
      · rw [HR.out]; unfold FlowM.home; dsimp only; omega
      · exact below_comp (below_new _) (below_new _)
    all_goals
      go_wp2
      go_round
      case rel => simp
      case measure => simp [intOf]

end Go.Proofs.Ytkmebahjnnnckaa
