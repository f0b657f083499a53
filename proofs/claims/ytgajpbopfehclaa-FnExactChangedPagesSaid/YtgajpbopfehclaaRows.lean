/-
  No cell of these rows narrows 'for every input' (looked for: loops, veiled, ifaces, maps, wideKeys, modest, calm, conditions, laid).
  DERIVED. THE GIVEN ROWS OF THIS SEAT. 17 by the template 'for every input the law returns true; each argument reads behind the call as it read before'; 0 by the template 'total and deterministic' (their statements: YtgajpbopfehclaaTotals.lean).
  GIVEN WITH THE SEED: the statements are not yours to turn. If you find one false, say at which input.
  Laid BY PROGRAM, IN A SANDBOX (cutbox-rows.mjs): the forced cells as the released guide's own fill.sh prints them over the translation f66fc2cec9e9ca53… (all of the seat's roots in one cut). By AI agents, Wed Nov 11 2026. No macro, syntax, notation, axiom, sorry.
-/
import Derived.Test.YtgajpbopfehclaaChecked
import GoSem.Claim
import GoSem.ClaimJoined
import GoSem.ClaimMapViews
import Derived.JoinedTies
import Derived.KernelRfl
namespace Go.Proofs.Ytgajpbopfehclaa
/- THE CELL 'sum', in the pinned program and in every row, IS THE sha256 OF THE DUMP (.gsa) THAT YtgajpbopfehclaaProg.lean LOADS. Nothing in Lean hashes anything: it is a label: what it is worth is what the hold of that sum in a sandbox is worth. -/
noncomputable def Try.pinned : Pinned := { name := "ytgajpbopfehclaa", sum := "f66fc2cec9e9ca533f641e221859abb13ad6d985c592f61f909604f951b2acda", checked := Try.checked }
namespace Rows
def none {H : Type} : Left H := { results := [], args := [] }

/-- 'laws.FnExactNewMemory': WHATEVER THE INPUT: true; the input reads as it did. -/
def fnExactNewMemorySpec : ChangeSpec := { name := "fnExactNewMemory", fn := fun _ => fun
  | [d] => { results := [.lit (.bool true)], args := [d] }
  | _ => none }
def fnExactNewMemoryRow : OpenClaim := { program := "ytgajpbopfehclaa", sum := "f66fc2cec9e9ca533f641e221859abb13ad6d985c592f61f909604f951b2acda", func := "loop.example/g03312/laws.FnExactNewMemory", spec := "fnExactNewMemory", inPlace := ["internal/abi.NoEscape", "internal/bytealg.MakeNoZero"], apart := false }
def FnExactNewMemorySaid : Prop := fnExactNewMemoryRow.holds Try.pinned (OpenSpec.ofChange fnExactNewMemorySpec)

/-- ITS FALSE NEIGHBOUR: 'it returns false'. Refute it at one input. -/
def fnExactNewMemoryWrong : ChangeSpec := { name := "fnExactNewMemory", fn := fun _ => fun
  | [d] => { results := [.lit (.bool false)], args := [d] }
  | _ => none }
def FnExactNewMemoryWrongFalsely : Prop := fnExactNewMemoryRow.holds Try.pinned (OpenSpec.ofChange fnExactNewMemoryWrong)

/-- 'laws.FnExactActOk': WHATEVER THE INPUT: true; the input reads as it did. -/
def fnExactActOkSpec : ChangeSpec := { name := "fnExactActOk", fn := fun _ => fun
  | [d] => { results := [.lit (.bool true)], args := [d] }
  | _ => none }
def fnExactActOkRow : OpenClaim := { program := "ytgajpbopfehclaa", sum := "f66fc2cec9e9ca533f641e221859abb13ad6d985c592f61f909604f951b2acda", func := "loop.example/g03312/laws.FnExactActOk", spec := "fnExactActOk", apart := false }
def FnExactActOkSaid : Prop := fnExactActOkRow.holds Try.pinned (OpenSpec.ofChange fnExactActOkSpec)

/-- ITS FALSE NEIGHBOUR: 'it returns false'. Refute it at one input. -/
def fnExactActOkWrong : ChangeSpec := { name := "fnExactActOk", fn := fun _ => fun
  | [d] => { results := [.lit (.bool false)], args := [d] }
  | _ => none }
def FnExactActOkWrongFalsely : Prop := fnExactActOkRow.holds Try.pinned (OpenSpec.ofChange fnExactActOkWrong)

/-- 'laws.FnExactReadMemory': WHATEVER THE INPUT: true; the input reads as it did. -/
def fnExactReadMemorySpec : ChangeSpec := { name := "fnExactReadMemory", fn := fun _ => fun
  | [d1, d2, d3] => { results := [.lit (.bool true)], args := [d1, d2, d3] }
  | _ => none }
def fnExactReadMemoryRow : OpenClaim := { program := "ytgajpbopfehclaa", sum := "f66fc2cec9e9ca533f641e221859abb13ad6d985c592f61f909604f951b2acda", func := "loop.example/g03312/laws.FnExactReadMemory", spec := "fnExactReadMemory", inPlace := ["internal/abi.NoEscape"], unfollowed := true, recurses := true, leaving := true, apart := false }
def FnExactReadMemorySaid : Prop := fnExactReadMemoryRow.holds Try.pinned (OpenSpec.ofChange fnExactReadMemorySpec)

/-- ITS FALSE NEIGHBOUR: 'it returns false'. Refute it at one input. -/
def fnExactReadMemoryWrong : ChangeSpec := { name := "fnExactReadMemory", fn := fun _ => fun
  | [d1, d2, d3] => { results := [.lit (.bool false)], args := [d1, d2, d3] }
  | _ => none }
def FnExactReadMemoryWrongFalsely : Prop := fnExactReadMemoryRow.holds Try.pinned (OpenSpec.ofChange fnExactReadMemoryWrong)

/-- 'laws.FnExactWriteMemory': WHATEVER THE INPUT: true; the input reads as it did. -/
def fnExactWriteMemorySpec : ChangeSpec := { name := "fnExactWriteMemory", fn := fun _ => fun
  | [d1, d2, d3] => { results := [.lit (.bool true)], args := [d1, d2, d3] }
  | _ => none }
def fnExactWriteMemoryRow : OpenClaim := { program := "ytgajpbopfehclaa", sum := "f66fc2cec9e9ca533f641e221859abb13ad6d985c592f61f909604f951b2acda", func := "loop.example/g03312/laws.FnExactWriteMemory", spec := "fnExactWriteMemory", unfollowed := true, recurses := true, leaving := true, apart := false }
def FnExactWriteMemorySaid : Prop := fnExactWriteMemoryRow.holds Try.pinned (OpenSpec.ofChange fnExactWriteMemorySpec)

/-- ITS FALSE NEIGHBOUR: 'it returns false'. Refute it at one input. -/
def fnExactWriteMemoryWrong : ChangeSpec := { name := "fnExactWriteMemory", fn := fun _ => fun
  | [d1, d2, d3] => { results := [.lit (.bool false)], args := [d1, d2, d3] }
  | _ => none }
def FnExactWriteMemoryWrongFalsely : Prop := fnExactWriteMemoryRow.holds Try.pinned (OpenSpec.ofChange fnExactWriteMemoryWrong)

/-- 'laws.FnExactChangedPages': WHATEVER THE INPUT: true; the input reads as it did. -/
def fnExactChangedPagesSpec : ChangeSpec := { name := "fnExactChangedPages", fn := fun _ => fun
  | [d1, d2] => { results := [.lit (.bool true)], args := [d1, d2] }
  | _ => none }
def fnExactChangedPagesRow : OpenClaim := { program := "ytgajpbopfehclaa", sum := "f66fc2cec9e9ca533f641e221859abb13ad6d985c592f61f909604f951b2acda", func := "loop.example/g03312/laws.FnExactChangedPages", spec := "fnExactChangedPages", apart := false }
def FnExactChangedPagesSaid : Prop := fnExactChangedPagesRow.holds Try.pinned (OpenSpec.ofChange fnExactChangedPagesSpec)

/-- ITS FALSE NEIGHBOUR: 'it returns false'. Refute it at one input. -/
def fnExactChangedPagesWrong : ChangeSpec := { name := "fnExactChangedPages", fn := fun _ => fun
  | [d1, d2] => { results := [.lit (.bool false)], args := [d1, d2] }
  | _ => none }
def FnExactChangedPagesWrongFalsely : Prop := fnExactChangedPagesRow.holds Try.pinned (OpenSpec.ofChange fnExactChangedPagesWrong)

/-- 'laws.FnMemoryRound': WHATEVER THE INPUT: true; the input reads as it did. -/
def fnMemoryRoundSpec : ChangeSpec := { name := "fnMemoryRound", fn := fun _ => fun
  | [d] => { results := [.lit (.bool true)], args := [d] }
  | _ => none }
def fnMemoryRoundRow : OpenClaim := { program := "ytgajpbopfehclaa", sum := "f66fc2cec9e9ca533f641e221859abb13ad6d985c592f61f909604f951b2acda", func := "loop.example/g03312/laws.FnMemoryRound", spec := "fnMemoryRound", inPlace := ["internal/abi.NoEscape"], unfollowed := true, recurses := true, leaving := true, apart := false }
def FnMemoryRoundSaid : Prop := fnMemoryRoundRow.holds Try.pinned (OpenSpec.ofChange fnMemoryRoundSpec)

/-- ITS FALSE NEIGHBOUR: 'it returns false'. Refute it at one input. -/
def fnMemoryRoundWrong : ChangeSpec := { name := "fnMemoryRound", fn := fun _ => fun
  | [d] => { results := [.lit (.bool false)], args := [d] }
  | _ => none }
def FnMemoryRoundWrongFalsely : Prop := fnMemoryRoundRow.holds Try.pinned (OpenSpec.ofChange fnMemoryRoundWrong)

/-- 'laws.FnInterruptComes': WHATEVER THE INPUT: true; the input reads as it did. -/
def fnInterruptComesSpec : ChangeSpec := { name := "fnInterruptComes", fn := fun _ => fun
  | [d] => { results := [.lit (.bool true)], args := [d] }
  | _ => none }
def fnInterruptComesRow : OpenClaim := { program := "ytgajpbopfehclaa", sum := "f66fc2cec9e9ca533f641e221859abb13ad6d985c592f61f909604f951b2acda", func := "loop.example/g03312/laws.FnInterruptComes", spec := "fnInterruptComes", apart := false }
def FnInterruptComesSaid : Prop := fnInterruptComesRow.holds Try.pinned (OpenSpec.ofChange fnInterruptComesSpec)

/-- ITS FALSE NEIGHBOUR: 'it returns false'. Refute it at one input. -/
def fnInterruptComesWrong : ChangeSpec := { name := "fnInterruptComes", fn := fun _ => fun
  | [d] => { results := [.lit (.bool false)], args := [d] }
  | _ => none }
def FnInterruptComesWrongFalsely : Prop := fnInterruptComesRow.holds Try.pinned (OpenSpec.ofChange fnInterruptComesWrong)

/-- 'laws.FnInterruptsFew': WHATEVER THE INPUT: true; the input reads as it did. -/
def fnInterruptsFewSpec : ChangeSpec := { name := "fnInterruptsFew", fn := fun _ => fun
  | [d] => { results := [.lit (.bool true)], args := [d] }
  | _ => none }
def fnInterruptsFewRow : OpenClaim := { program := "ytgajpbopfehclaa", sum := "f66fc2cec9e9ca533f641e221859abb13ad6d985c592f61f909604f951b2acda", func := "loop.example/g03312/laws.FnInterruptsFew", spec := "fnInterruptsFew", apart := false }
def FnInterruptsFewSaid : Prop := fnInterruptsFewRow.holds Try.pinned (OpenSpec.ofChange fnInterruptsFewSpec)

/-- ITS FALSE NEIGHBOUR: 'it returns false'. Refute it at one input. -/
def fnInterruptsFewWrong : ChangeSpec := { name := "fnInterruptsFew", fn := fun _ => fun
  | [d] => { results := [.lit (.bool false)], args := [d] }
  | _ => none }
def FnInterruptsFewWrongFalsely : Prop := fnInterruptsFewRow.holds Try.pinned (OpenSpec.ofChange fnInterruptsFewWrong)

/-- 'laws.FnHashLinear': WHATEVER THE INPUT: true; the input reads as it did. -/
def fnHashLinearSpec : ChangeSpec := { name := "fnHashLinear", fn := fun _ => fun
  | [d] => { results := [.lit (.bool true)], args := [d] }
  | _ => none }
def fnHashLinearRow : OpenClaim := { program := "ytgajpbopfehclaa", sum := "f66fc2cec9e9ca533f641e221859abb13ad6d985c592f61f909604f951b2acda", func := "loop.example/g03312/laws.FnHashLinear", spec := "fnHashLinear", unfollowed := true, recurses := true, leaving := true, apart := false }
def FnHashLinearSaid : Prop := fnHashLinearRow.holds Try.pinned (OpenSpec.ofChange fnHashLinearSpec)

/-- ITS FALSE NEIGHBOUR: 'it returns false'. Refute it at one input. -/
def fnHashLinearWrong : ChangeSpec := { name := "fnHashLinear", fn := fun _ => fun
  | [d] => { results := [.lit (.bool false)], args := [d] }
  | _ => none }
def FnHashLinearWrongFalsely : Prop := fnHashLinearRow.holds Try.pinned (OpenSpec.ofChange fnHashLinearWrong)

/-- 'laws.FnHashSymmetric': WHATEVER THE INPUT: true; the input reads as it did. -/
def fnHashSymmetricSpec : ChangeSpec := { name := "fnHashSymmetric", fn := fun _ => fun
  | [d] => { results := [.lit (.bool true)], args := [d] }
  | _ => none }
def fnHashSymmetricRow : OpenClaim := { program := "ytgajpbopfehclaa", sum := "f66fc2cec9e9ca533f641e221859abb13ad6d985c592f61f909604f951b2acda", func := "loop.example/g03312/laws.FnHashSymmetric", spec := "fnHashSymmetric", unfollowed := true, recurses := true, leaving := true, apart := false }
def FnHashSymmetricSaid : Prop := fnHashSymmetricRow.holds Try.pinned (OpenSpec.ofChange fnHashSymmetricSpec)

/-- ITS FALSE NEIGHBOUR: 'it returns false'. Refute it at one input. -/
def fnHashSymmetricWrong : ChangeSpec := { name := "fnHashSymmetric", fn := fun _ => fun
  | [d] => { results := [.lit (.bool false)], args := [d] }
  | _ => none }
def FnHashSymmetricWrongFalsely : Prop := fnHashSymmetricRow.holds Try.pinned (OpenSpec.ofChange fnHashSymmetricWrong)

/-- 'laws.FnImages': WHATEVER THE INPUT: true; the input reads as it did. -/
def fnImagesSpec : ChangeSpec := { name := "fnImages", fn := fun _ => fun
  | [d] => { results := [.lit (.bool true)], args := [d] }
  | _ => none }
def fnImagesRow : OpenClaim := { program := "ytgajpbopfehclaa", sum := "f66fc2cec9e9ca533f641e221859abb13ad6d985c592f61f909604f951b2acda", func := "loop.example/g03312/laws.FnImages", spec := "fnImages", apart := false }
def FnImagesSaid : Prop := fnImagesRow.holds Try.pinned (OpenSpec.ofChange fnImagesSpec)

/-- ITS FALSE NEIGHBOUR: 'it returns false'. Refute it at one input. -/
def fnImagesWrong : ChangeSpec := { name := "fnImages", fn := fun _ => fun
  | [d] => { results := [.lit (.bool false)], args := [d] }
  | _ => none }
def FnImagesWrongFalsely : Prop := fnImagesRow.holds Try.pinned (OpenSpec.ofChange fnImagesWrong)

/-- 'laws.FnExactAdvanceClock': WHATEVER THE INPUT: true; the input reads as it did. -/
def fnExactAdvanceClockSpec : ChangeSpec := { name := "fnExactAdvanceClock", fn := fun _ => fun
  | [d1, d2] => { results := [.lit (.bool true)], args := [d1, d2] }
  | _ => none }
def fnExactAdvanceClockRow : OpenClaim := { program := "ytgajpbopfehclaa", sum := "f66fc2cec9e9ca533f641e221859abb13ad6d985c592f61f909604f951b2acda", func := "loop.example/g03312/laws.FnExactAdvanceClock", spec := "fnExactAdvanceClock", apart := false }
def FnExactAdvanceClockSaid : Prop := fnExactAdvanceClockRow.holds Try.pinned (OpenSpec.ofChange fnExactAdvanceClockSpec)

/-- ITS FALSE NEIGHBOUR: 'it returns false'. Refute it at one input. -/
def fnExactAdvanceClockWrong : ChangeSpec := { name := "fnExactAdvanceClock", fn := fun _ => fun
  | [d1, d2] => { results := [.lit (.bool false)], args := [d1, d2] }
  | _ => none }
def FnExactAdvanceClockWrongFalsely : Prop := fnExactAdvanceClockRow.holds Try.pinned (OpenSpec.ofChange fnExactAdvanceClockWrong)

/-- 'laws.FnExactStepClock': WHATEVER THE INPUT: true; the input reads as it did. -/
def fnExactStepClockSpec : ChangeSpec := { name := "fnExactStepClock", fn := fun _ => fun
  | [d1, d2] => { results := [.lit (.bool true)], args := [d1, d2] }
  | _ => none }
def fnExactStepClockRow : OpenClaim := { program := "ytgajpbopfehclaa", sum := "f66fc2cec9e9ca533f641e221859abb13ad6d985c592f61f909604f951b2acda", func := "loop.example/g03312/laws.FnExactStepClock", spec := "fnExactStepClock", apart := false }
def FnExactStepClockSaid : Prop := fnExactStepClockRow.holds Try.pinned (OpenSpec.ofChange fnExactStepClockSpec)

/-- ITS FALSE NEIGHBOUR: 'it returns false'. Refute it at one input. -/
def fnExactStepClockWrong : ChangeSpec := { name := "fnExactStepClock", fn := fun _ => fun
  | [d1, d2] => { results := [.lit (.bool false)], args := [d1, d2] }
  | _ => none }
def FnExactStepClockWrongFalsely : Prop := fnExactStepClockRow.holds Try.pinned (OpenSpec.ofChange fnExactStepClockWrong)

/-- 'laws.FnClockForward': WHATEVER THE INPUT: true; the input reads as it did. -/
def fnClockForwardSpec : ChangeSpec := { name := "fnClockForward", fn := fun _ => fun
  | [d] => { results := [.lit (.bool true)], args := [d] }
  | _ => none }
def fnClockForwardRow : OpenClaim := { program := "ytgajpbopfehclaa", sum := "f66fc2cec9e9ca533f641e221859abb13ad6d985c592f61f909604f951b2acda", func := "loop.example/g03312/laws.FnClockForward", spec := "fnClockForward", apart := false }
def FnClockForwardSaid : Prop := fnClockForwardRow.holds Try.pinned (OpenSpec.ofChange fnClockForwardSpec)

/-- ITS FALSE NEIGHBOUR: 'it returns false'. Refute it at one input. -/
def fnClockForwardWrong : ChangeSpec := { name := "fnClockForward", fn := fun _ => fun
  | [d] => { results := [.lit (.bool false)], args := [d] }
  | _ => none }
def FnClockForwardWrongFalsely : Prop := fnClockForwardRow.holds Try.pinned (OpenSpec.ofChange fnClockForwardWrong)

/-- 'laws.FnClockParts': WHATEVER THE INPUT: true; the input reads as it did. -/
def fnClockPartsSpec : ChangeSpec := { name := "fnClockParts", fn := fun _ => fun
  | [d] => { results := [.lit (.bool true)], args := [d] }
  | _ => none }
def fnClockPartsRow : OpenClaim := { program := "ytgajpbopfehclaa", sum := "f66fc2cec9e9ca533f641e221859abb13ad6d985c592f61f909604f951b2acda", func := "loop.example/g03312/laws.FnClockParts", spec := "fnClockParts", apart := false }
def FnClockPartsSaid : Prop := fnClockPartsRow.holds Try.pinned (OpenSpec.ofChange fnClockPartsSpec)

/-- ITS FALSE NEIGHBOUR: 'it returns false'. Refute it at one input. -/
def fnClockPartsWrong : ChangeSpec := { name := "fnClockParts", fn := fun _ => fun
  | [d] => { results := [.lit (.bool false)], args := [d] }
  | _ => none }
def FnClockPartsWrongFalsely : Prop := fnClockPartsRow.holds Try.pinned (OpenSpec.ofChange fnClockPartsWrong)

/-- 'laws.FnExactPaceLengths': WHATEVER THE INPUT: true; the input reads as it did. -/
def fnExactPaceLengthsSpec : ChangeSpec := { name := "fnExactPaceLengths", fn := fun _ => fun
  | [d1, d2, d3] => { results := [.lit (.bool true)], args := [d1, d2, d3] }
  | _ => none }
def fnExactPaceLengthsRow : OpenClaim := { program := "ytgajpbopfehclaa", sum := "f66fc2cec9e9ca533f641e221859abb13ad6d985c592f61f909604f951b2acda", func := "loop.example/g03312/laws.FnExactPaceLengths", spec := "fnExactPaceLengths", unfollowed := true, recurses := true, leaving := true, apart := false }
def FnExactPaceLengthsSaid : Prop := fnExactPaceLengthsRow.holds Try.pinned (OpenSpec.ofChange fnExactPaceLengthsSpec)

/-- ITS FALSE NEIGHBOUR: 'it returns false'. Refute it at one input. -/
def fnExactPaceLengthsWrong : ChangeSpec := { name := "fnExactPaceLengths", fn := fun _ => fun
  | [d1, d2, d3] => { results := [.lit (.bool false)], args := [d1, d2, d3] }
  | _ => none }
def FnExactPaceLengthsWrongFalsely : Prop := fnExactPaceLengthsRow.holds Try.pinned (OpenSpec.ofChange fnExactPaceLengthsWrong)

/-- 'laws.FnRateBound': WHATEVER THE INPUT: true; the input reads as it did. -/
def fnRateBoundSpec : ChangeSpec := { name := "fnRateBound", fn := fun _ => fun
  | [d] => { results := [.lit (.bool true)], args := [d] }
  | _ => none }
def fnRateBoundRow : OpenClaim := { program := "ytgajpbopfehclaa", sum := "f66fc2cec9e9ca533f641e221859abb13ad6d985c592f61f909604f951b2acda", func := "loop.example/g03312/laws.FnRateBound", spec := "fnRateBound", unfollowed := true, recurses := true, leaving := true, apart := false }
def FnRateBoundSaid : Prop := fnRateBoundRow.holds Try.pinned (OpenSpec.ofChange fnRateBoundSpec)

/-- ITS FALSE NEIGHBOUR: 'it returns false'. Refute it at one input. -/
def fnRateBoundWrong : ChangeSpec := { name := "fnRateBound", fn := fun _ => fun
  | [d] => { results := [.lit (.bool false)], args := [d] }
  | _ => none }
def FnRateBoundWrongFalsely : Prop := fnRateBoundRow.holds Try.pinned (OpenSpec.ofChange fnRateBoundWrong)

/- THE SECOND FORM. 'bulk': how many values and letters a reading holds, each counted each time it is reached (what is shared counts as often as it is met; a slice's spare places count too). A statement '..UptoSaid' is the law's where the arguments, and the package variables that the reading takes, are together of bulk at most 1048576: NARROWER than '..Said'. Prove '..Said' where nothing that the law and all that it calls make is longer than what came in: it says more and counts as full. Else prove '..UptoSaid'. A law counts once. -/
mutual
def uptoBulk {H : Type} : DataW H → Nat
  | .lit (.string bytes) => bytes.length + 1
  | .lit _ => 1
  | .nil => 1
  | .ptr d => uptoBulk d + 1
  | .slice elems spare => uptoBulkAll elems + uptoBulkAll spare + 1
  | .agg parts => uptoBulkAll parts + 1
  | .iface _ d => uptoBulk d + 1
  | .map entries => uptoBulkEntries entries + 1
  | .held _ => 1
def uptoBulkAll {H : Type} : List (DataW H) → Nat
  | [] => 0
  | d :: r => uptoBulk d + uptoBulkAll r
def uptoBulkEntries {H : Type} : List (Lit × DataW H) → Nat
  | [] => 0
  | x :: r => uptoBulkEntry x + uptoBulkEntries r
def uptoBulkEntry {H : Type} : Lit × DataW H → Nat
  | (.string bytes, d) => bytes.length + uptoBulk d + 1
  | (_, d) => uptoBulk d + 1
 end
def uptoSmall : (H : Type) → List (DataW H) → Bool := fun _ ds => decide (uptoBulkAll ds ≤ 1048576)
def OpenSpec.upto (s : _root_.Go.ChangeSpec) : _root_.Go.OpenSpec := { _root_.Go.OpenSpec.ofChange s with cond := some uptoSmall }

/-- 'laws.FnExactNewMemory', WHERE WHAT IT READS IS OF BULK AT MOST 1048576: true; the input reads as it did. -/
def fnExactNewMemoryUptoRow : OpenClaim := { program := "ytgajpbopfehclaa", sum := "f66fc2cec9e9ca533f641e221859abb13ad6d985c592f61f909604f951b2acda", func := "loop.example/g03312/laws.FnExactNewMemory", spec := "fnExactNewMemory", inPlace := ["internal/abi.NoEscape", "internal/bytealg.MakeNoZero"], apart := false, narrowed := true }
def FnExactNewMemoryUptoSaid : Prop := fnExactNewMemoryUptoRow.holds Try.pinned (OpenSpec.upto fnExactNewMemorySpec)

/-- 'laws.FnExactActOk', WHERE WHAT IT READS IS OF BULK AT MOST 1048576: true; the input reads as it did. -/
def fnExactActOkUptoRow : OpenClaim := { program := "ytgajpbopfehclaa", sum := "f66fc2cec9e9ca533f641e221859abb13ad6d985c592f61f909604f951b2acda", func := "loop.example/g03312/laws.FnExactActOk", spec := "fnExactActOk", apart := false, narrowed := true }
def FnExactActOkUptoSaid : Prop := fnExactActOkUptoRow.holds Try.pinned (OpenSpec.upto fnExactActOkSpec)

/-- 'laws.FnExactReadMemory', WHERE WHAT IT READS IS OF BULK AT MOST 1048576: true; the input reads as it did. -/
def fnExactReadMemoryUptoRow : OpenClaim := { program := "ytgajpbopfehclaa", sum := "f66fc2cec9e9ca533f641e221859abb13ad6d985c592f61f909604f951b2acda", func := "loop.example/g03312/laws.FnExactReadMemory", spec := "fnExactReadMemory", inPlace := ["internal/abi.NoEscape"], unfollowed := true, recurses := true, leaving := true, apart := false, narrowed := true }
def FnExactReadMemoryUptoSaid : Prop := fnExactReadMemoryUptoRow.holds Try.pinned (OpenSpec.upto fnExactReadMemorySpec)

/-- 'laws.FnExactWriteMemory', WHERE WHAT IT READS IS OF BULK AT MOST 1048576: true; the input reads as it did. -/
def fnExactWriteMemoryUptoRow : OpenClaim := { program := "ytgajpbopfehclaa", sum := "f66fc2cec9e9ca533f641e221859abb13ad6d985c592f61f909604f951b2acda", func := "loop.example/g03312/laws.FnExactWriteMemory", spec := "fnExactWriteMemory", unfollowed := true, recurses := true, leaving := true, apart := false, narrowed := true }
def FnExactWriteMemoryUptoSaid : Prop := fnExactWriteMemoryUptoRow.holds Try.pinned (OpenSpec.upto fnExactWriteMemorySpec)

/-- 'laws.FnExactChangedPages', WHERE WHAT IT READS IS OF BULK AT MOST 1048576: true; the input reads as it did. -/
def fnExactChangedPagesUptoRow : OpenClaim := { program := "ytgajpbopfehclaa", sum := "f66fc2cec9e9ca533f641e221859abb13ad6d985c592f61f909604f951b2acda", func := "loop.example/g03312/laws.FnExactChangedPages", spec := "fnExactChangedPages", apart := false, narrowed := true }
def FnExactChangedPagesUptoSaid : Prop := fnExactChangedPagesUptoRow.holds Try.pinned (OpenSpec.upto fnExactChangedPagesSpec)

/-- 'laws.FnMemoryRound', WHERE WHAT IT READS IS OF BULK AT MOST 1048576: true; the input reads as it did. -/
def fnMemoryRoundUptoRow : OpenClaim := { program := "ytgajpbopfehclaa", sum := "f66fc2cec9e9ca533f641e221859abb13ad6d985c592f61f909604f951b2acda", func := "loop.example/g03312/laws.FnMemoryRound", spec := "fnMemoryRound", inPlace := ["internal/abi.NoEscape"], unfollowed := true, recurses := true, leaving := true, apart := false, narrowed := true }
def FnMemoryRoundUptoSaid : Prop := fnMemoryRoundUptoRow.holds Try.pinned (OpenSpec.upto fnMemoryRoundSpec)

/-- 'laws.FnInterruptComes', WHERE WHAT IT READS IS OF BULK AT MOST 1048576: true; the input reads as it did. -/
def fnInterruptComesUptoRow : OpenClaim := { program := "ytgajpbopfehclaa", sum := "f66fc2cec9e9ca533f641e221859abb13ad6d985c592f61f909604f951b2acda", func := "loop.example/g03312/laws.FnInterruptComes", spec := "fnInterruptComes", apart := false, narrowed := true }
def FnInterruptComesUptoSaid : Prop := fnInterruptComesUptoRow.holds Try.pinned (OpenSpec.upto fnInterruptComesSpec)

/-- 'laws.FnInterruptsFew', WHERE WHAT IT READS IS OF BULK AT MOST 1048576: true; the input reads as it did. -/
def fnInterruptsFewUptoRow : OpenClaim := { program := "ytgajpbopfehclaa", sum := "f66fc2cec9e9ca533f641e221859abb13ad6d985c592f61f909604f951b2acda", func := "loop.example/g03312/laws.FnInterruptsFew", spec := "fnInterruptsFew", apart := false, narrowed := true }
def FnInterruptsFewUptoSaid : Prop := fnInterruptsFewUptoRow.holds Try.pinned (OpenSpec.upto fnInterruptsFewSpec)

/-- 'laws.FnHashLinear', WHERE WHAT IT READS IS OF BULK AT MOST 1048576: true; the input reads as it did. -/
def fnHashLinearUptoRow : OpenClaim := { program := "ytgajpbopfehclaa", sum := "f66fc2cec9e9ca533f641e221859abb13ad6d985c592f61f909604f951b2acda", func := "loop.example/g03312/laws.FnHashLinear", spec := "fnHashLinear", unfollowed := true, recurses := true, leaving := true, apart := false, narrowed := true }
def FnHashLinearUptoSaid : Prop := fnHashLinearUptoRow.holds Try.pinned (OpenSpec.upto fnHashLinearSpec)

/-- 'laws.FnHashSymmetric', WHERE WHAT IT READS IS OF BULK AT MOST 1048576: true; the input reads as it did. -/
def fnHashSymmetricUptoRow : OpenClaim := { program := "ytgajpbopfehclaa", sum := "f66fc2cec9e9ca533f641e221859abb13ad6d985c592f61f909604f951b2acda", func := "loop.example/g03312/laws.FnHashSymmetric", spec := "fnHashSymmetric", unfollowed := true, recurses := true, leaving := true, apart := false, narrowed := true }
def FnHashSymmetricUptoSaid : Prop := fnHashSymmetricUptoRow.holds Try.pinned (OpenSpec.upto fnHashSymmetricSpec)

/-- 'laws.FnImages', WHERE WHAT IT READS IS OF BULK AT MOST 1048576: true; the input reads as it did. -/
def fnImagesUptoRow : OpenClaim := { program := "ytgajpbopfehclaa", sum := "f66fc2cec9e9ca533f641e221859abb13ad6d985c592f61f909604f951b2acda", func := "loop.example/g03312/laws.FnImages", spec := "fnImages", apart := false, narrowed := true }
def FnImagesUptoSaid : Prop := fnImagesUptoRow.holds Try.pinned (OpenSpec.upto fnImagesSpec)

/-- 'laws.FnExactAdvanceClock', WHERE WHAT IT READS IS OF BULK AT MOST 1048576: true; the input reads as it did. -/
def fnExactAdvanceClockUptoRow : OpenClaim := { program := "ytgajpbopfehclaa", sum := "f66fc2cec9e9ca533f641e221859abb13ad6d985c592f61f909604f951b2acda", func := "loop.example/g03312/laws.FnExactAdvanceClock", spec := "fnExactAdvanceClock", apart := false, narrowed := true }
def FnExactAdvanceClockUptoSaid : Prop := fnExactAdvanceClockUptoRow.holds Try.pinned (OpenSpec.upto fnExactAdvanceClockSpec)

/-- 'laws.FnExactStepClock', WHERE WHAT IT READS IS OF BULK AT MOST 1048576: true; the input reads as it did. -/
def fnExactStepClockUptoRow : OpenClaim := { program := "ytgajpbopfehclaa", sum := "f66fc2cec9e9ca533f641e221859abb13ad6d985c592f61f909604f951b2acda", func := "loop.example/g03312/laws.FnExactStepClock", spec := "fnExactStepClock", apart := false, narrowed := true }
def FnExactStepClockUptoSaid : Prop := fnExactStepClockUptoRow.holds Try.pinned (OpenSpec.upto fnExactStepClockSpec)

/-- 'laws.FnClockForward', WHERE WHAT IT READS IS OF BULK AT MOST 1048576: true; the input reads as it did. -/
def fnClockForwardUptoRow : OpenClaim := { program := "ytgajpbopfehclaa", sum := "f66fc2cec9e9ca533f641e221859abb13ad6d985c592f61f909604f951b2acda", func := "loop.example/g03312/laws.FnClockForward", spec := "fnClockForward", apart := false, narrowed := true }
def FnClockForwardUptoSaid : Prop := fnClockForwardUptoRow.holds Try.pinned (OpenSpec.upto fnClockForwardSpec)

/-- 'laws.FnClockParts', WHERE WHAT IT READS IS OF BULK AT MOST 1048576: true; the input reads as it did. -/
def fnClockPartsUptoRow : OpenClaim := { program := "ytgajpbopfehclaa", sum := "f66fc2cec9e9ca533f641e221859abb13ad6d985c592f61f909604f951b2acda", func := "loop.example/g03312/laws.FnClockParts", spec := "fnClockParts", apart := false, narrowed := true }
def FnClockPartsUptoSaid : Prop := fnClockPartsUptoRow.holds Try.pinned (OpenSpec.upto fnClockPartsSpec)

/-- 'laws.FnExactPaceLengths', WHERE WHAT IT READS IS OF BULK AT MOST 1048576: true; the input reads as it did. -/
def fnExactPaceLengthsUptoRow : OpenClaim := { program := "ytgajpbopfehclaa", sum := "f66fc2cec9e9ca533f641e221859abb13ad6d985c592f61f909604f951b2acda", func := "loop.example/g03312/laws.FnExactPaceLengths", spec := "fnExactPaceLengths", unfollowed := true, recurses := true, leaving := true, apart := false, narrowed := true }
def FnExactPaceLengthsUptoSaid : Prop := fnExactPaceLengthsUptoRow.holds Try.pinned (OpenSpec.upto fnExactPaceLengthsSpec)

/-- 'laws.FnRateBound', WHERE WHAT IT READS IS OF BULK AT MOST 1048576: true; the input reads as it did. -/
def fnRateBoundUptoRow : OpenClaim := { program := "ytgajpbopfehclaa", sum := "f66fc2cec9e9ca533f641e221859abb13ad6d985c592f61f909604f951b2acda", func := "loop.example/g03312/laws.FnRateBound", spec := "fnRateBound", unfollowed := true, recurses := true, leaving := true, apart := false, narrowed := true }
def FnRateBoundUptoSaid : Prop := fnRateBoundUptoRow.holds Try.pinned (OpenSpec.upto fnRateBoundSpec)

end Rows
end Go.Proofs.Ytgajpbopfehclaa
