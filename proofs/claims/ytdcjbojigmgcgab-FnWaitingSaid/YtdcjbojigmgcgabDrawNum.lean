/- Contracts of the model's draws of numbers out of lists. -/
import Derived.Test.YtdcjbojigmgcgabDraw
namespace Go.Proofs.Ytdcjbojigmgcgab
open Go.RowKit

/-- One of the numbers of a list that lies in a block of its own. -/
theorem pick_any (n c : Nat) (b : Nat) (P : Int → Prop) (B g : Nat) (A : Option Addr) (len cap : Nat) (w : World) (hc : Cur w B g A len cap) (hn : 0 < n) (hn2 : n ≤ 1000) (hb : b ≠ g)
    (hcell : ∀ j, j < n → ∃ v : Int, P v ∧ w.cell? ⟨b, j, none⟩ = some (.int .i64 v)) :
    Calls Try.prog 51 #[.pointer (some ⟨g, 0, none⟩), .slice (some ⟨b, 0, none⟩) n c] w fun e w' => ∃ v : Int, P v ∧ e = .returned (.int .i64 v) ∧ Cur w' B g A len cap ∧ w.grownBy w' (some g) := by
  have HC := Lib.hid hc
  have HK := Lib.hid hcell
  clear hc hcell
  go_enter Try.func51, Try.ntmps51
  go_wp2_with fail
  refine (below_any n B g A len cap _ HC.out (by omega) (by omega)).mono ?_
  rintro e w1 ⟨x, x0, x1, rfl, hc1, hg1⟩
  obtain ⟨v, hv, hcv⟩ := HK.out x.toNat (by omega)
  have hcv1 : w1.cell? ⟨b, x.toNat, none⟩ = some (.int .i64 v) := hg1.cell hcv (by simpa using hb)
  go_wp2
  go_ret
  exact ⟨v, hv, rfl, hc1, hg1⟩

end Go.Proofs.Ytdcjbojigmgcgab
