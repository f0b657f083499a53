/- The range tests of both sides, decided. -/
import Derived.Test.YtfbnjemmmgobkaaInBoth
namespace Go.Proofs.Ytfbnjemmmgobkaa
open Go.RowKit
theorem spec_in_yes (x lo hi : Int) (w : World) (h : lo ≤ x ∧ x ≤ hi) :
    Calls Try.prog 108 #[.int .i64 x, .int .i64 lo, .int .i64 hi] w fun e w' => e = .returned (.bool true) ∧ w = w' := by
  have := spec_in x lo hi w; rwa [decide_eq_true h] at this
theorem spec_in_no (x lo hi : Int) (w : World) (h : ¬ (lo ≤ x ∧ x ≤ hi)) :
    Calls Try.prog 108 #[.int .i64 x, .int .i64 lo, .int .i64 hi] w fun e w' => e = .returned (.bool false) ∧ w = w' := by
  have := spec_in x lo hi w; rwa [decide_eq_false h] at this
theorem impl_in_yes (x lo hi : Int) (w : World) (h : lo ≤ x ∧ x ≤ hi) :
    Calls Try.prog 110 #[.int .i64 x, .int .i64 lo, .int .i64 hi] w fun e w' => e = .returned (.bool true) ∧ w = w' := by
  have := impl_in x lo hi w; rwa [decide_eq_true h] at this
theorem impl_in_no (x lo hi : Int) (w : World) (h : ¬ (lo ≤ x ∧ x ≤ hi)) :
    Calls Try.prog 110 #[.int .i64 x, .int .i64 lo, .int .i64 hi] w fun e w' => e = .returned (.bool false) ∧ w = w' := by
  have := impl_in x lo hi w; rwa [decide_eq_false h] at this
end Go.Proofs.Ytfbnjemmmgobkaa
