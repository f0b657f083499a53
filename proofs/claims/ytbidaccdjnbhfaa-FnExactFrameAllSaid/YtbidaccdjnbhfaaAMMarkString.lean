/- Marks in rows of String, by the abstract machine. -/
import Derived.Test.YtbidaccdjnbhfaaAMRowString
namespace Go.Proofs.Ytbidaccdjnbhfaa
open Go.RowKit AM
set_option linter.unusedVariables false
set_option linter.unusedSimpArgs false

theorem tmString : sizeL Try.prog 45 = some (1, false) ∧
    zeroL Try.prog 45 = some [.slice none 0 0] ∧
    elemL Try.prog 45 = some (9, 1) ∧
    bytesL Try.prog 45 = some 24 ∧
    sizeL Try.prog 3 = some (1, false) ∧
    zeroL Try.prog 3 = some [.int .i64 0] ∧
    bytesL Try.prog 3 = some 8 ∧
    Try.prog.underlying 3 = some (.int .i64) ∧
    sizeL Try.prog 4 = some (1, false) ∧
    zeroL Try.prog 4 = some [.bool false] ∧
    bytesL Try.prog 4 = some 1 ∧
    Try.prog.underlying 4 = some (.bool) ∧
    sizeL Try.prog 9 = some (1, false) ∧
    zeroL Try.prog 9 = some [.string .empty] ∧
    bytesL Try.prog 9 = some 16 ∧
    Try.prog.underlying 9 = some (.string) := ⟨by kernel_rfl, by kernel_rfl, by kernel_rfl, by kernel_rfl, by kernel_rfl, by kernel_rfl, by kernel_rfl, by kernel_rfl, by kernel_rfl, by kernel_rfl, by kernel_rfl, by kernel_rfl, by kernel_rfl, by kernel_rfl, by kernel_rfl, by kernel_rfl⟩
end Go.Proofs.Ytbidaccdjnbhfaa
