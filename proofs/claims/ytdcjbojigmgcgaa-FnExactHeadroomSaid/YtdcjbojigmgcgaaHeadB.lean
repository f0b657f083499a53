/- Headroom of both sides. -/
import Derived.Test.YtdcjbojigmgcgaaInYN
import Derived.Test.YtdcjbojigmgcgaaKit
import Derived.Deep.QuietTactic
import Derived.BigQuiet
namespace Go.Proofs.Ytdcjbojigmgcgaa
open Go.RowKit
set_option linter.unusedSimpArgs false
set_option linter.unusedVariables false

def headroom (d r : Int) : Int := if (1 ≤ d ∧ d ≤ 8) ∧ (0 ≤ r ∧ r ≤ 1000) then (2 * d + 1) * r else -1

set_option maxHeartbeats 4000000 in
set_option maxRecDepth 100000 in
theorem spec_headroom (d r : Int) (w : World) :
    Calls Try.prog 44 #[.int .i64 d, .int .i64 r] w fun e w' => e = .returned (.int .i64 (headroom d r)) ∧ Below w.heap.size w w' := by
  by_cases h1 : 1 ≤ d ∧ d ≤ 8
  case neg =>
    rw [show headroom d r = -1 from if_neg (fun hh => h1 hh.1)]
    have HD := Lib.hid fun W => spec_in_no d 1 8 W h1
    clear h1
    go_enter Try.func44, Try.ntmps44
    go_wp2_with (first | (go_at_call_of 46 (Value.int IntKind.i64 d); refine (HD.out _).mono ?_; rintro e w' ⟨rfl, rfl⟩))
    go_ret
    exact ⟨rfl, Below.refl _ _⟩
  have HD := Lib.hid fun W => spec_in_yes d 1 8 W h1
  by_cases h2 : 0 ≤ r ∧ r ≤ 1000
  case neg =>
    rw [show headroom d r = -1 from if_neg (fun hh => h2 hh.2)]
    have HR := Lib.hid fun W => spec_in_no r 0 1000 W h2
    clear h1 h2
    go_enter Try.func44, Try.ntmps44
    go_wp2_with (first | (go_at_call_of 46 (Value.int IntKind.i64 d); refine (HD.out _).mono ?_; rintro e w' ⟨rfl, rfl⟩) | (go_at_call_of 46 (Value.int IntKind.i64 r); refine (HR.out _).mono ?_; rintro e w' ⟨rfl, rfl⟩))
    go_ret
    exact ⟨rfl, Below.refl _ _⟩
  have HR := Lib.hid fun W => spec_in_yes r 0 1000 W h2
  rw [show headroom d r = (2 * d + 1) * r from if_pos ⟨h1, h2⟩]
  have hP := Int.mul_nonneg (show 0 ≤ 2 * d + 1 by omega) h2.1
  have hQ : (2 * d + 1) * r ≤ 17 * 1000 := Int.mul_le_mul (by omega) h2.2 h2.1 (by omega)
  have d1 := h1.1
  have d2 := h1.2
  clear h1 h2
  go_enter Try.func44, Try.ntmps44
  go_wp2_with (first | (go_at_call_of 46 (Value.int IntKind.i64 d); refine (HD.out _).mono ?_; rintro e w' ⟨rfl, rfl⟩) | (go_at_call_of 46 (Value.int IntKind.i64 r); refine (HR.out _).mono ?_; rintro e w' ⟨rfl, rfl⟩))
  go_ret
  exact ⟨rfl, Below.refl _ _⟩

set_option maxHeartbeats 4000000 in
set_option maxRecDepth 100000 in
theorem impl_headroom (d r : Int) (w : World) :
    Calls Try.prog 45 #[.int .i64 d, .int .i64 r] w fun e w' => e = .returned (.int .i64 (headroom d r)) ∧ Below w.heap.size w w' := by
  by_cases h1 : 1 ≤ d ∧ d ≤ 8
  case neg =>
    rw [show headroom d r = -1 from if_neg (fun hh => h1 hh.1)]
    have HD := Lib.hid fun W => impl_in_no d 1 8 W h1
    clear h1
    go_enter Try.func45, Try.ntmps45
    go_wp2_with (first | (go_at_call_of 48 (Value.int IntKind.i64 d); refine (HD.out _).mono ?_; rintro e w' ⟨rfl, rfl⟩))
    go_ret
    exact ⟨rfl, Below.refl _ _⟩
  have HD := Lib.hid fun W => impl_in_yes d 1 8 W h1
  by_cases h2 : 0 ≤ r ∧ r ≤ 1000
  case neg =>
    rw [show headroom d r = -1 from if_neg (fun hh => h2 hh.2)]
    have HR := Lib.hid fun W => impl_in_no r 0 1000 W h2
    clear h1 h2
    go_enter Try.func45, Try.ntmps45
    go_wp2_with (first | (go_at_call_of 48 (Value.int IntKind.i64 d); refine (HD.out _).mono ?_; rintro e w' ⟨rfl, rfl⟩) | (go_at_call_of 48 (Value.int IntKind.i64 r); refine (HR.out _).mono ?_; rintro e w' ⟨rfl, rfl⟩))
    go_ret
    exact ⟨rfl, Below.refl _ _⟩
  have HR := Lib.hid fun W => impl_in_yes r 0 1000 W h2
  rw [show headroom d r = (2 * d + 1) * r from if_pos ⟨h1, h2⟩]
  have hP := Int.mul_nonneg (show 0 ≤ 2 * d + 1 by omega) h2.1
  have hQ : (2 * d + 1) * r ≤ 17 * 1000 := Int.mul_le_mul (by omega) h2.2 h2.1 (by omega)
  have d1 := h1.1
  have d2 := h1.2
  clear h1 h2
  go_enter Try.func45, Try.ntmps45
  go_wp2_with (first | (go_at_call_of 48 (Value.int IntKind.i64 d); refine (HD.out _).mono ?_; rintro e w' ⟨rfl, rfl⟩) | (go_at_call_of 48 (Value.int IntKind.i64 r); refine (HR.out _).mono ?_; rintro e w' ⟨rfl, rfl⟩))
  go_ret
  exact ⟨rfl, Below.refl _ _⟩

end Go.Proofs.Ytdcjbojigmgcgaa
