/- A number out of the code of a draw. -/
import Derived.Test.YtdcjbojigmgcgabDraw
namespace Go.Proofs.Ytdcjbojigmgcgab
open Go.RowKit
/-- A byte of the code. -/
theorem at_any (B : Nat) (i : Nat) (A : Option Addr) (len cap : Nat) (w : World) (hcode : Code w B A len) (hi : i ≤ 1000) :
    Calls Try.prog 28 #[.slice A len cap, .int .i64 i] w fun e w' => ∃ x : Int, (0 ≤ x ∧ x ≤ 255) ∧ e = .returned (.int .i64 x) ∧ w = w' := by
  have hl := hcode.1
  have HC := Lib.hid hcode
  clear hcode
  by_cases h0 : len = 0
  · subst h0
    go_enter Try.func28, Try.ntmps28
    go_wp2
    go_ret
    exact ⟨0, by omega, rfl, rfl⟩
  · have hp : 0 < len := by omega
    have hm : (i * 5 + 1) % len < len := Nat.mod_lt _ hp
    obtain ⟨ad, n, rfl, hxB, n0, n1, hcell⟩ := HC.out.2 ((i * 5 + 1) % len) hm
    have hk : ((i : Int) * 5 + 1) % (len : Int) = (((i * 5 + 1) % len : Nat) : Int) := by rw [Int.natCast_emod, Int.natCast_add, Int.natCast_mul]; rfl
    generalize (i * 5 + 1) % len = k at hm hcell hk
    have hl0 : ((len : Int) == 0) = false := by simpa using h0
    clear h0
    go_enter Try.func28, Try.ntmps28
    go_wp2
    go_ret
    exact ⟨n, ⟨n0, n1⟩, rfl, rfl⟩

end Go.Proofs.Ytdcjbojigmgcgab
