/- PiecesOfDescs of both sides. -/
import Derived.Test.YtfbnjemmmgobkaaAMPod1
import Derived.Test.YtfbnjemmmgobkaaAMTup
namespace Go.Proofs.Ytfbnjemmmgobkaa
open Go.RowKit AM
set_option linter.unusedVariables false
set_option linter.unusedSimpArgs false

theorem tpp : sizeL Try.prog 163 = some (2, true) ∧
    fieldsL Try.prog 163 = some [(0, 1, false), (1, 1, false)] ∧
    zeroL Try.prog 163 = some [.int .i64 0, .int .i64 0] ∧
    bytesL Try.prog 163 = some 16 ∧
    sizeL Try.prog 161 = some (6, true) ∧
    fieldsL Try.prog 161 = some [(0, 1, false), (1, 1, false), (2, 1, false), (3, 1, false), (4, 1, false), (5, 1, false)] ∧
    zeroL Try.prog 161 = some [.int .i64 0, .int .i64 0, .int .i64 0, .int .i64 0, .int .i64 0, .int .i64 0] ∧
    bytesL Try.prog 161 = some 48 ∧
    sizeL Try.prog 78 = some (1, false) ∧
    zeroL Try.prog 78 = some [.slice none 0 0] ∧
    elemL Try.prog 78 = some (163, 2) ∧
    bytesL Try.prog 78 = some 24 ∧
    sizeL Try.prog 81 = some (1, false) ∧
    zeroL Try.prog 81 = some [.slice none 0 0] ∧
    elemL Try.prog 81 = some (161, 6) ∧
    bytesL Try.prog 81 = some 24 ∧
    sizeL Try.prog 3 = some (1, false) ∧
    zeroL Try.prog 3 = some [.int .i64 0] ∧
    bytesL Try.prog 3 = some 8 ∧
    Try.prog.underlying 3 = some (.int .i64) ∧
    sizeL Try.prog 4 = some (1, false) ∧
    zeroL Try.prog 4 = some [.bool false] ∧
    bytesL Try.prog 4 = some 1 ∧
    Try.prog.underlying 4 = some (.bool) := ⟨by kernel_rfl, by kernel_rfl, by kernel_rfl, by kernel_rfl, by kernel_rfl, by kernel_rfl, by kernel_rfl, by kernel_rfl, by kernel_rfl, by kernel_rfl, by kernel_rfl, by kernel_rfl, by kernel_rfl, by kernel_rfl, by kernel_rfl, by kernel_rfl, by kernel_rfl, by kernel_rfl, by kernel_rfl, by kernel_rfl, by kernel_rfl, by kernel_rfl, by kernel_rfl, by kernel_rfl⟩

def pcOf (e : DescM) : PieceM := ⟨e.xAt, e.xLen⟩
def podB (d : DescM) (r : List DescM) : List DescM := descL (r.map pcOf) d.xSize d.xCookie
noncomputable def podL : List DescM → List PieceM
  | [] => []
  | d :: r => if sameB (podB d r) (d :: r) = true then r.map pcOf else []
noncomputable def podS : List DescM → Int
  | [] => 0
  | d :: r => if sameB (podB d r) (d :: r) = true then d.xSize else 0
noncomputable def podC : List DescM → Int
  | [] => 0
  | d :: r => if sameB (podB d r) (d :: r) = true then d.xCookie else 0
noncomputable def podOk : List DescM → Bool
  | [] => false
  | d :: r => sameB (podB d r) (d :: r)
theorem pod_pos {d : DescM} {r : List DescM} (h : sameB (podB d r) (d :: r) = true) : ¬ r.length = 0 := by
  intro h0
  have hr : r = [] := List.length_eq_zero_iff.1 h0
  subst hr
  rw [show podB d [] = [] from by unfold podB descL; exact if_neg (fun hh => hh.1.1 rfl), sameB_no (by simp)] at h
  cases h
theorem podL_len (l : List DescM) : (podL l).length ≤ l.length := by
  cases l with
  | nil => simp [podL]
  | cons d r => simp only [podL]; split <;> simp
end Go.Proofs.Ytfbnjemmmgobkaa
