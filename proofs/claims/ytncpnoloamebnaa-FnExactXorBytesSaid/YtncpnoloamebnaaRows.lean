/-
  No cell of these rows narrows 'for every input' (looked for: loops, veiled, ifaces, maps, wideKeys, modest, calm, conditions, laid).
  DERIVED. THE GIVEN ROWS OF THIS SEAT. 13 by the template 'for every input the law returns true; each argument reads behind the call as it read before'; 0 by the template 'total and deterministic' (their statements: YtncpnoloamebnaaTotals.lean).
  GIVEN WITH THE SEED: the statements are not yours to turn. If you find one false, say at which input.
  Laid BY PROGRAM, IN A SANDBOX (cutbox-rows.mjs): the forced cells as the released guide's own fill.sh prints them over the translation 88bbbff478f5b570… (all of the seat's roots in one cut). By AI agents, Wed Nov 11 2026. No macro, syntax, notation, axiom, sorry.
-/
import Derived.Test.YtncpnoloamebnaaChecked
import GoSem.Claim
import GoSem.ClaimJoined
import GoSem.ClaimMapViews
import Derived.JoinedTies
import Derived.KernelRfl
namespace Go.Proofs.Ytncpnoloamebnaa
/- THE CELL 'sum', in the pinned program and in every row, IS THE sha256 OF THE DUMP (.gsa) THAT YtncpnoloamebnaaProg.lean LOADS. Nothing in Lean hashes anything: it is a label: what it is worth is what the hold of that sum in a sandbox is worth. -/
noncomputable def Try.pinned : Pinned := { name := "ytncpnoloamebnaa", sum := "88bbbff478f5b570c9c1243f22a711842ad1cb1ae9588319c918d40a09e05b68", checked := Try.checked }
namespace Rows
def none {H : Type} : Left H := { results := [], args := [] }

/-- 'laws.FnExactKeyWindow': WHATEVER THE INPUT: true; the input reads as it did. -/
def fnExactKeyWindowSpec : ChangeSpec := { name := "fnExactKeyWindow", fn := fun _ => fun
  | [d1, d2] => { results := [.lit (.bool true)], args := [d1, d2] }
  | _ => none }
def fnExactKeyWindowRow : OpenClaim := { program := "ytncpnoloamebnaa", sum := "88bbbff478f5b570c9c1243f22a711842ad1cb1ae9588319c918d40a09e05b68", func := "loop.example/g03312/laws.FnExactKeyWindow", spec := "fnExactKeyWindow", apart := false }
def FnExactKeyWindowSaid : Prop := fnExactKeyWindowRow.holds Try.pinned (OpenSpec.ofChange fnExactKeyWindowSpec)

/-- ITS FALSE NEIGHBOUR: 'it returns false'. Refute it at one input. -/
def fnExactKeyWindowWrong : ChangeSpec := { name := "fnExactKeyWindow", fn := fun _ => fun
  | [d1, d2] => { results := [.lit (.bool false)], args := [d1, d2] }
  | _ => none }
def FnExactKeyWindowWrongFalsely : Prop := fnExactKeyWindowRow.holds Try.pinned (OpenSpec.ofChange fnExactKeyWindowWrong)

/-- 'laws.FnExactHashBytes': WHATEVER THE INPUT: true; the input reads as it did. -/
def fnExactHashBytesSpec : ChangeSpec := { name := "fnExactHashBytes", fn := fun _ => fun
  | [d1, d2] => { results := [.lit (.bool true)], args := [d1, d2] }
  | _ => none }
def fnExactHashBytesRow : OpenClaim := { program := "ytncpnoloamebnaa", sum := "88bbbff478f5b570c9c1243f22a711842ad1cb1ae9588319c918d40a09e05b68", func := "loop.example/g03312/laws.FnExactHashBytes", spec := "fnExactHashBytes", unfollowed := true, recurses := true, apart := false }
def FnExactHashBytesSaid : Prop := fnExactHashBytesRow.holds Try.pinned (OpenSpec.ofChange fnExactHashBytesSpec)

/-- ITS FALSE NEIGHBOUR: 'it returns false'. Refute it at one input. -/
def fnExactHashBytesWrong : ChangeSpec := { name := "fnExactHashBytes", fn := fun _ => fun
  | [d1, d2] => { results := [.lit (.bool false)], args := [d1, d2] }
  | _ => none }
def FnExactHashBytesWrongFalsely : Prop := fnExactHashBytesRow.holds Try.pinned (OpenSpec.ofChange fnExactHashBytesWrong)

/-- 'laws.FnExactHashInput': WHATEVER THE INPUT: true; the input reads as it did. -/
def fnExactHashInputSpec : ChangeSpec := { name := "fnExactHashInput", fn := fun _ => fun
  | [d] => { results := [.lit (.bool true)], args := [d] }
  | _ => none }
def fnExactHashInputRow : OpenClaim := { program := "ytncpnoloamebnaa", sum := "88bbbff478f5b570c9c1243f22a711842ad1cb1ae9588319c918d40a09e05b68", func := "loop.example/g03312/laws.FnExactHashInput", spec := "fnExactHashInput", apart := false }
def FnExactHashInputSaid : Prop := fnExactHashInputRow.holds Try.pinned (OpenSpec.ofChange fnExactHashInputSpec)

/-- ITS FALSE NEIGHBOUR: 'it returns false'. Refute it at one input. -/
def fnExactHashInputWrong : ChangeSpec := { name := "fnExactHashInput", fn := fun _ => fun
  | [d] => { results := [.lit (.bool false)], args := [d] }
  | _ => none }
def FnExactHashInputWrongFalsely : Prop := fnExactHashInputRow.holds Try.pinned (OpenSpec.ofChange fnExactHashInputWrong)

/-- 'laws.FnExactHashFlow': WHATEVER THE INPUT: true; the input reads as it did. -/
def fnExactHashFlowSpec : ChangeSpec := { name := "fnExactHashFlow", fn := fun _ => fun
  | [d1, d2] => { results := [.lit (.bool true)], args := [d1, d2] }
  | _ => none }
def fnExactHashFlowRow : OpenClaim := { program := "ytncpnoloamebnaa", sum := "88bbbff478f5b570c9c1243f22a711842ad1cb1ae9588319c918d40a09e05b68", func := "loop.example/g03312/laws.FnExactHashFlow", spec := "fnExactHashFlow", unfollowed := true, recurses := true, apart := false }
def FnExactHashFlowSaid : Prop := fnExactHashFlowRow.holds Try.pinned (OpenSpec.ofChange fnExactHashFlowSpec)

/-- ITS FALSE NEIGHBOUR: 'it returns false'. Refute it at one input. -/
def fnExactHashFlowWrong : ChangeSpec := { name := "fnExactHashFlow", fn := fun _ => fun
  | [d1, d2] => { results := [.lit (.bool false)], args := [d1, d2] }
  | _ => none }
def FnExactHashFlowWrongFalsely : Prop := fnExactHashFlowRow.holds Try.pinned (OpenSpec.ofChange fnExactHashFlowWrong)

/-- 'laws.FnExactXorBytes': WHATEVER THE INPUT: true; the input reads as it did. -/
def fnExactXorBytesSpec : ChangeSpec := { name := "fnExactXorBytes", fn := fun _ => fun
  | [d1, d2] => { results := [.lit (.bool true)], args := [d1, d2] }
  | _ => none }
def fnExactXorBytesRow : OpenClaim := { program := "ytncpnoloamebnaa", sum := "88bbbff478f5b570c9c1243f22a711842ad1cb1ae9588319c918d40a09e05b68", func := "loop.example/g03312/laws.FnExactXorBytes", spec := "fnExactXorBytes", apart := false }
def FnExactXorBytesSaid : Prop := fnExactXorBytesRow.holds Try.pinned (OpenSpec.ofChange fnExactXorBytesSpec)

/-- ITS FALSE NEIGHBOUR: 'it returns false'. Refute it at one input. -/
def fnExactXorBytesWrong : ChangeSpec := { name := "fnExactXorBytes", fn := fun _ => fun
  | [d1, d2] => { results := [.lit (.bool false)], args := [d1, d2] }
  | _ => none }
def FnExactXorBytesWrongFalsely : Prop := fnExactXorBytesRow.holds Try.pinned (OpenSpec.ofChange fnExactXorBytesWrong)

/-- 'laws.FnExactRepeatedKey': WHATEVER THE INPUT: true; the input reads as it did. -/
def fnExactRepeatedKeySpec : ChangeSpec := { name := "fnExactRepeatedKey", fn := fun _ => fun
  | [d1, d2] => { results := [.lit (.bool true)], args := [d1, d2] }
  | _ => none }
def fnExactRepeatedKeyRow : OpenClaim := { program := "ytncpnoloamebnaa", sum := "88bbbff478f5b570c9c1243f22a711842ad1cb1ae9588319c918d40a09e05b68", func := "loop.example/g03312/laws.FnExactRepeatedKey", spec := "fnExactRepeatedKey", apart := false }
def FnExactRepeatedKeySaid : Prop := fnExactRepeatedKeyRow.holds Try.pinned (OpenSpec.ofChange fnExactRepeatedKeySpec)

/-- ITS FALSE NEIGHBOUR: 'it returns false'. Refute it at one input. -/
def fnExactRepeatedKeyWrong : ChangeSpec := { name := "fnExactRepeatedKey", fn := fun _ => fun
  | [d1, d2] => { results := [.lit (.bool false)], args := [d1, d2] }
  | _ => none }
def FnExactRepeatedKeyWrongFalsely : Prop := fnExactRepeatedKeyRow.holds Try.pinned (OpenSpec.ofChange fnExactRepeatedKeyWrong)

/-- 'laws.FnExactReversed': WHATEVER THE INPUT: true; the input reads as it did. -/
def fnExactReversedSpec : ChangeSpec := { name := "fnExactReversed", fn := fun _ => fun
  | [d] => { results := [.lit (.bool true)], args := [d] }
  | _ => none }
def fnExactReversedRow : OpenClaim := { program := "ytncpnoloamebnaa", sum := "88bbbff478f5b570c9c1243f22a711842ad1cb1ae9588319c918d40a09e05b68", func := "loop.example/g03312/laws.FnExactReversed", spec := "fnExactReversed", apart := false }
def FnExactReversedSaid : Prop := fnExactReversedRow.holds Try.pinned (OpenSpec.ofChange fnExactReversedSpec)

/-- ITS FALSE NEIGHBOUR: 'it returns false'. Refute it at one input. -/
def fnExactReversedWrong : ChangeSpec := { name := "fnExactReversed", fn := fun _ => fun
  | [d] => { results := [.lit (.bool false)], args := [d] }
  | _ => none }
def FnExactReversedWrongFalsely : Prop := fnExactReversedRow.holds Try.pinned (OpenSpec.ofChange fnExactReversedWrong)

/-- 'laws.FnExactHomeSlot': WHATEVER THE INPUT: true; the input reads as it did. -/
def fnExactHomeSlotSpec : ChangeSpec := { name := "fnExactHomeSlot", fn := fun _ => fun
  | [d] => { results := [.lit (.bool true)], args := [d] }
  | _ => none }
def fnExactHomeSlotRow : OpenClaim := { program := "ytncpnoloamebnaa", sum := "88bbbff478f5b570c9c1243f22a711842ad1cb1ae9588319c918d40a09e05b68", func := "loop.example/g03312/laws.FnExactHomeSlot", spec := "fnExactHomeSlot", apart := false }
def FnExactHomeSlotSaid : Prop := fnExactHomeSlotRow.holds Try.pinned (OpenSpec.ofChange fnExactHomeSlotSpec)

/-- ITS FALSE NEIGHBOUR: 'it returns false'. Refute it at one input. -/
def fnExactHomeSlotWrong : ChangeSpec := { name := "fnExactHomeSlot", fn := fun _ => fun
  | [d] => { results := [.lit (.bool false)], args := [d] }
  | _ => none }
def FnExactHomeSlotWrongFalsely : Prop := fnExactHomeSlotRow.holds Try.pinned (OpenSpec.ofChange fnExactHomeSlotWrong)

/-- 'laws.FnExactDescOk': WHATEVER THE INPUT: true; the input reads as it did. -/
def fnExactDescOkSpec : ChangeSpec := { name := "fnExactDescOk", fn := fun _ => fun
  | [d] => { results := [.lit (.bool true)], args := [d] }
  | _ => none }
def fnExactDescOkRow : OpenClaim := { program := "ytncpnoloamebnaa", sum := "88bbbff478f5b570c9c1243f22a711842ad1cb1ae9588319c918d40a09e05b68", func := "loop.example/g03312/laws.FnExactDescOk", spec := "fnExactDescOk", apart := false }
def FnExactDescOkSaid : Prop := fnExactDescOkRow.holds Try.pinned (OpenSpec.ofChange fnExactDescOkSpec)

/-- ITS FALSE NEIGHBOUR: 'it returns false'. Refute it at one input. -/
def fnExactDescOkWrong : ChangeSpec := { name := "fnExactDescOk", fn := fun _ => fun
  | [d] => { results := [.lit (.bool false)], args := [d] }
  | _ => none }
def FnExactDescOkWrongFalsely : Prop := fnExactDescOkRow.holds Try.pinned (OpenSpec.ofChange fnExactDescOkWrong)

/-- 'laws.FnExactEncodeDesc': WHATEVER THE INPUT: true; the input reads as it did. -/
def fnExactEncodeDescSpec : ChangeSpec := { name := "fnExactEncodeDesc", fn := fun _ => fun
  | [d] => { results := [.lit (.bool true)], args := [d] }
  | _ => none }
def fnExactEncodeDescRow : OpenClaim := { program := "ytncpnoloamebnaa", sum := "88bbbff478f5b570c9c1243f22a711842ad1cb1ae9588319c918d40a09e05b68", func := "loop.example/g03312/laws.FnExactEncodeDesc", spec := "fnExactEncodeDesc", unfollowed := true, recurses := true, apart := false }
def FnExactEncodeDescSaid : Prop := fnExactEncodeDescRow.holds Try.pinned (OpenSpec.ofChange fnExactEncodeDescSpec)

/-- ITS FALSE NEIGHBOUR: 'it returns false'. Refute it at one input. -/
def fnExactEncodeDescWrong : ChangeSpec := { name := "fnExactEncodeDesc", fn := fun _ => fun
  | [d] => { results := [.lit (.bool false)], args := [d] }
  | _ => none }
def FnExactEncodeDescWrongFalsely : Prop := fnExactEncodeDescRow.holds Try.pinned (OpenSpec.ofChange fnExactEncodeDescWrong)

/-- 'laws.FnExactDecodeDesc': WHATEVER THE INPUT: true; the input reads as it did. -/
def fnExactDecodeDescSpec : ChangeSpec := { name := "fnExactDecodeDesc", fn := fun _ => fun
  | [d] => { results := [.lit (.bool true)], args := [d] }
  | _ => none }
def fnExactDecodeDescRow : OpenClaim := { program := "ytncpnoloamebnaa", sum := "88bbbff478f5b570c9c1243f22a711842ad1cb1ae9588319c918d40a09e05b68", func := "loop.example/g03312/laws.FnExactDecodeDesc", spec := "fnExactDecodeDesc", unfollowed := true, recurses := true, apart := false }
def FnExactDecodeDescSaid : Prop := fnExactDecodeDescRow.holds Try.pinned (OpenSpec.ofChange fnExactDecodeDescSpec)

/-- ITS FALSE NEIGHBOUR: 'it returns false'. Refute it at one input. -/
def fnExactDecodeDescWrong : ChangeSpec := { name := "fnExactDecodeDesc", fn := fun _ => fun
  | [d] => { results := [.lit (.bool false)], args := [d] }
  | _ => none }
def FnExactDecodeDescWrongFalsely : Prop := fnExactDecodeDescRow.holds Try.pinned (OpenSpec.ofChange fnExactDecodeDescWrong)

/-- 'laws.FnExactCompletionOk': WHATEVER THE INPUT: true; the input reads as it did. -/
def fnExactCompletionOkSpec : ChangeSpec := { name := "fnExactCompletionOk", fn := fun _ => fun
  | [d] => { results := [.lit (.bool true)], args := [d] }
  | _ => none }
def fnExactCompletionOkRow : OpenClaim := { program := "ytncpnoloamebnaa", sum := "88bbbff478f5b570c9c1243f22a711842ad1cb1ae9588319c918d40a09e05b68", func := "loop.example/g03312/laws.FnExactCompletionOk", spec := "fnExactCompletionOk", apart := false }
def FnExactCompletionOkSaid : Prop := fnExactCompletionOkRow.holds Try.pinned (OpenSpec.ofChange fnExactCompletionOkSpec)

/-- ITS FALSE NEIGHBOUR: 'it returns false'. Refute it at one input. -/
def fnExactCompletionOkWrong : ChangeSpec := { name := "fnExactCompletionOk", fn := fun _ => fun
  | [d] => { results := [.lit (.bool false)], args := [d] }
  | _ => none }
def FnExactCompletionOkWrongFalsely : Prop := fnExactCompletionOkRow.holds Try.pinned (OpenSpec.ofChange fnExactCompletionOkWrong)

/-- 'laws.FnExactEncodeCompletion': WHATEVER THE INPUT: true; the input reads as it did. -/
def fnExactEncodeCompletionSpec : ChangeSpec := { name := "fnExactEncodeCompletion", fn := fun _ => fun
  | [d1, d2] => { results := [.lit (.bool true)], args := [d1, d2] }
  | _ => none }
def fnExactEncodeCompletionRow : OpenClaim := { program := "ytncpnoloamebnaa", sum := "88bbbff478f5b570c9c1243f22a711842ad1cb1ae9588319c918d40a09e05b68", func := "loop.example/g03312/laws.FnExactEncodeCompletion", spec := "fnExactEncodeCompletion", apart := false }
def FnExactEncodeCompletionSaid : Prop := fnExactEncodeCompletionRow.holds Try.pinned (OpenSpec.ofChange fnExactEncodeCompletionSpec)

/-- ITS FALSE NEIGHBOUR: 'it returns false'. Refute it at one input. -/
def fnExactEncodeCompletionWrong : ChangeSpec := { name := "fnExactEncodeCompletion", fn := fun _ => fun
  | [d1, d2] => { results := [.lit (.bool false)], args := [d1, d2] }
  | _ => none }
def FnExactEncodeCompletionWrongFalsely : Prop := fnExactEncodeCompletionRow.holds Try.pinned (OpenSpec.ofChange fnExactEncodeCompletionWrong)

/- THE SECOND FORM. 'bulk': how many values and letters a reading holds, each counted each time it is reached (what is shared counts as often as it is met; a slice's spare places count too). A statement '..UptoSaid' is the law's where the arguments, and the package variables that the reading takes, are together of bulk at most 1048576: NARROWER than '..Said'. Prove '..Said' where nothing that the law and all that it calls make is longer than what came in: it says more and counts as full. Else prove '..UptoSaid'. A law counts once. -/
mutual
def uptoBulk {H : Type} : DataW H → Nat
  | .lit (.string bytes) => bytes.length + 1
  | .lit _ => 1
  | .nil => 1
  | .ptr d => uptoBulk d + 1
  | .slice elems spare => uptoBulkAll elems + uptoBulkAll spare + 1
  | .agg parts => uptoBulkAll parts + 1
  | .iface _ d => uptoBulk d + 1
  | .map entries => uptoBulkEntries entries + 1
  | .held _ => 1
def uptoBulkAll {H : Type} : List (DataW H) → Nat
  | [] => 0
  | d :: r => uptoBulk d + uptoBulkAll r
def uptoBulkEntries {H : Type} : List (Lit × DataW H) → Nat
  | [] => 0
  | x :: r => uptoBulkEntry x + uptoBulkEntries r
def uptoBulkEntry {H : Type} : Lit × DataW H → Nat
  | (.string bytes, d) => bytes.length + uptoBulk d + 1
  | (_, d) => uptoBulk d + 1
 end
def uptoSmall : (H : Type) → List (DataW H) → Bool := fun _ ds => decide (uptoBulkAll ds ≤ 1048576)
def OpenSpec.upto (s : _root_.Go.ChangeSpec) : _root_.Go.OpenSpec := { _root_.Go.OpenSpec.ofChange s with cond := some uptoSmall }

/-- 'laws.FnExactKeyWindow', WHERE WHAT IT READS IS OF BULK AT MOST 1048576: true; the input reads as it did. -/
def fnExactKeyWindowUptoRow : OpenClaim := { program := "ytncpnoloamebnaa", sum := "88bbbff478f5b570c9c1243f22a711842ad1cb1ae9588319c918d40a09e05b68", func := "loop.example/g03312/laws.FnExactKeyWindow", spec := "fnExactKeyWindow", apart := false, narrowed := true }
def FnExactKeyWindowUptoSaid : Prop := fnExactKeyWindowUptoRow.holds Try.pinned (OpenSpec.upto fnExactKeyWindowSpec)

/-- 'laws.FnExactHashBytes', WHERE WHAT IT READS IS OF BULK AT MOST 1048576: true; the input reads as it did. -/
def fnExactHashBytesUptoRow : OpenClaim := { program := "ytncpnoloamebnaa", sum := "88bbbff478f5b570c9c1243f22a711842ad1cb1ae9588319c918d40a09e05b68", func := "loop.example/g03312/laws.FnExactHashBytes", spec := "fnExactHashBytes", unfollowed := true, recurses := true, apart := false, narrowed := true }
def FnExactHashBytesUptoSaid : Prop := fnExactHashBytesUptoRow.holds Try.pinned (OpenSpec.upto fnExactHashBytesSpec)

/-- 'laws.FnExactHashInput', WHERE WHAT IT READS IS OF BULK AT MOST 1048576: true; the input reads as it did. -/
def fnExactHashInputUptoRow : OpenClaim := { program := "ytncpnoloamebnaa", sum := "88bbbff478f5b570c9c1243f22a711842ad1cb1ae9588319c918d40a09e05b68", func := "loop.example/g03312/laws.FnExactHashInput", spec := "fnExactHashInput", apart := false, narrowed := true }
def FnExactHashInputUptoSaid : Prop := fnExactHashInputUptoRow.holds Try.pinned (OpenSpec.upto fnExactHashInputSpec)

/-- 'laws.FnExactHashFlow', WHERE WHAT IT READS IS OF BULK AT MOST 1048576: true; the input reads as it did. -/
def fnExactHashFlowUptoRow : OpenClaim := { program := "ytncpnoloamebnaa", sum := "88bbbff478f5b570c9c1243f22a711842ad1cb1ae9588319c918d40a09e05b68", func := "loop.example/g03312/laws.FnExactHashFlow", spec := "fnExactHashFlow", unfollowed := true, recurses := true, apart := false, narrowed := true }
def FnExactHashFlowUptoSaid : Prop := fnExactHashFlowUptoRow.holds Try.pinned (OpenSpec.upto fnExactHashFlowSpec)

/-- 'laws.FnExactXorBytes', WHERE WHAT IT READS IS OF BULK AT MOST 1048576: true; the input reads as it did. -/
def fnExactXorBytesUptoRow : OpenClaim := { program := "ytncpnoloamebnaa", sum := "88bbbff478f5b570c9c1243f22a711842ad1cb1ae9588319c918d40a09e05b68", func := "loop.example/g03312/laws.FnExactXorBytes", spec := "fnExactXorBytes", apart := false, narrowed := true }
def FnExactXorBytesUptoSaid : Prop := fnExactXorBytesUptoRow.holds Try.pinned (OpenSpec.upto fnExactXorBytesSpec)

/-- 'laws.FnExactRepeatedKey', WHERE WHAT IT READS IS OF BULK AT MOST 1048576: true; the input reads as it did. -/
def fnExactRepeatedKeyUptoRow : OpenClaim := { program := "ytncpnoloamebnaa", sum := "88bbbff478f5b570c9c1243f22a711842ad1cb1ae9588319c918d40a09e05b68", func := "loop.example/g03312/laws.FnExactRepeatedKey", spec := "fnExactRepeatedKey", apart := false, narrowed := true }
def FnExactRepeatedKeyUptoSaid : Prop := fnExactRepeatedKeyUptoRow.holds Try.pinned (OpenSpec.upto fnExactRepeatedKeySpec)

/-- 'laws.FnExactReversed', WHERE WHAT IT READS IS OF BULK AT MOST 1048576: true; the input reads as it did. -/
def fnExactReversedUptoRow : OpenClaim := { program := "ytncpnoloamebnaa", sum := "88bbbff478f5b570c9c1243f22a711842ad1cb1ae9588319c918d40a09e05b68", func := "loop.example/g03312/laws.FnExactReversed", spec := "fnExactReversed", apart := false, narrowed := true }
def FnExactReversedUptoSaid : Prop := fnExactReversedUptoRow.holds Try.pinned (OpenSpec.upto fnExactReversedSpec)

/-- 'laws.FnExactHomeSlot', WHERE WHAT IT READS IS OF BULK AT MOST 1048576: true; the input reads as it did. -/
def fnExactHomeSlotUptoRow : OpenClaim := { program := "ytncpnoloamebnaa", sum := "88bbbff478f5b570c9c1243f22a711842ad1cb1ae9588319c918d40a09e05b68", func := "loop.example/g03312/laws.FnExactHomeSlot", spec := "fnExactHomeSlot", apart := false, narrowed := true }
def FnExactHomeSlotUptoSaid : Prop := fnExactHomeSlotUptoRow.holds Try.pinned (OpenSpec.upto fnExactHomeSlotSpec)

/-- 'laws.FnExactDescOk', WHERE WHAT IT READS IS OF BULK AT MOST 1048576: true; the input reads as it did. -/
def fnExactDescOkUptoRow : OpenClaim := { program := "ytncpnoloamebnaa", sum := "88bbbff478f5b570c9c1243f22a711842ad1cb1ae9588319c918d40a09e05b68", func := "loop.example/g03312/laws.FnExactDescOk", spec := "fnExactDescOk", apart := false, narrowed := true }
def FnExactDescOkUptoSaid : Prop := fnExactDescOkUptoRow.holds Try.pinned (OpenSpec.upto fnExactDescOkSpec)

/-- 'laws.FnExactEncodeDesc', WHERE WHAT IT READS IS OF BULK AT MOST 1048576: true; the input reads as it did. -/
def fnExactEncodeDescUptoRow : OpenClaim := { program := "ytncpnoloamebnaa", sum := "88bbbff478f5b570c9c1243f22a711842ad1cb1ae9588319c918d40a09e05b68", func := "loop.example/g03312/laws.FnExactEncodeDesc", spec := "fnExactEncodeDesc", unfollowed := true, recurses := true, apart := false, narrowed := true }
def FnExactEncodeDescUptoSaid : Prop := fnExactEncodeDescUptoRow.holds Try.pinned (OpenSpec.upto fnExactEncodeDescSpec)

/-- 'laws.FnExactDecodeDesc', WHERE WHAT IT READS IS OF BULK AT MOST 1048576: true; the input reads as it did. -/
def fnExactDecodeDescUptoRow : OpenClaim := { program := "ytncpnoloamebnaa", sum := "88bbbff478f5b570c9c1243f22a711842ad1cb1ae9588319c918d40a09e05b68", func := "loop.example/g03312/laws.FnExactDecodeDesc", spec := "fnExactDecodeDesc", unfollowed := true, recurses := true, apart := false, narrowed := true }
def FnExactDecodeDescUptoSaid : Prop := fnExactDecodeDescUptoRow.holds Try.pinned (OpenSpec.upto fnExactDecodeDescSpec)

/-- 'laws.FnExactCompletionOk', WHERE WHAT IT READS IS OF BULK AT MOST 1048576: true; the input reads as it did. -/
def fnExactCompletionOkUptoRow : OpenClaim := { program := "ytncpnoloamebnaa", sum := "88bbbff478f5b570c9c1243f22a711842ad1cb1ae9588319c918d40a09e05b68", func := "loop.example/g03312/laws.FnExactCompletionOk", spec := "fnExactCompletionOk", apart := false, narrowed := true }
def FnExactCompletionOkUptoSaid : Prop := fnExactCompletionOkUptoRow.holds Try.pinned (OpenSpec.upto fnExactCompletionOkSpec)

/-- 'laws.FnExactEncodeCompletion', WHERE WHAT IT READS IS OF BULK AT MOST 1048576: true; the input reads as it did. -/
def fnExactEncodeCompletionUptoRow : OpenClaim := { program := "ytncpnoloamebnaa", sum := "88bbbff478f5b570c9c1243f22a711842ad1cb1ae9588319c918d40a09e05b68", func := "loop.example/g03312/laws.FnExactEncodeCompletion", spec := "fnExactEncodeCompletion", apart := false, narrowed := true }
def FnExactEncodeCompletionUptoSaid : Prop := fnExactEncodeCompletionUptoRow.holds Try.pinned (OpenSpec.upto fnExactEncodeCompletionSpec)

end Rows
end Go.Proofs.Ytncpnoloamebnaa
