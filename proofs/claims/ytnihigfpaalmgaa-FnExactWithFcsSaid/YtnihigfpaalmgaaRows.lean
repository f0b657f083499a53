/-
  No cell of these rows narrows 'for every input' (looked for: loops, veiled, ifaces, maps, wideKeys, modest, calm, conditions, laid).
  DERIVED. THE GIVEN ROWS OF THIS SEAT. 16 by the template 'for every input the law returns true; each argument reads behind the call as it read before'; 0 by the template 'total and deterministic' (their statements: YtnihigfpaalmgaaTotals.lean).
  GIVEN WITH THE SEED: the statements are not yours to turn. If you find one false, say at which input.
  Laid BY PROGRAM, IN A SANDBOX (cutbox-rows.mjs): the forced cells as the released guide's own fill.sh prints them over the translation 3be9b4cb0cd57a5d… (all of the seat's roots in one cut). By AI agents, Wed Nov 11 2026. No macro, syntax, notation, axiom, sorry.
-/
import Derived.Test.YtnihigfpaalmgaaChecked
import GoSem.Claim
import GoSem.ClaimJoined
import GoSem.ClaimMapViews
import Derived.JoinedTies
import Derived.KernelRfl
namespace Go.Proofs.Ytnihigfpaalmgaa
/- THE CELL 'sum', in the pinned program and in every row, IS THE sha256 OF THE DUMP (.gsa) THAT YtnihigfpaalmgaaProg.lean LOADS. Nothing in Lean hashes anything: it is a label: what it is worth is what the hold of that sum in a sandbox is worth. -/
noncomputable def Try.pinned : Pinned := { name := "ytnihigfpaalmgaa", sum := "3be9b4cb0cd57a5da0d14c8f9bdbeca7f5787a9883936eec1bdb7c53bc7e544d", checked := Try.checked }
namespace Rows
def none {H : Type} : Left H := { results := [], args := [] }

/-- 'laws.FnSumInserted': WHATEVER THE INPUT: true; the input reads as it did. -/
def fnSumInsertedSpec : ChangeSpec := { name := "fnSumInserted", fn := fun _ => fun
  | [d] => { results := [.lit (.bool true)], args := [d] }
  | _ => none }
def fnSumInsertedRow : OpenClaim := { program := "ytnihigfpaalmgaa", sum := "3be9b4cb0cd57a5da0d14c8f9bdbeca7f5787a9883936eec1bdb7c53bc7e544d", func := "loop.example/g03312/laws.FnSumInserted", spec := "fnSumInserted", apart := false }
def FnSumInsertedSaid : Prop := fnSumInsertedRow.holds Try.pinned (OpenSpec.ofChange fnSumInsertedSpec)

/-- ITS FALSE NEIGHBOUR: 'it returns false'. Refute it at one input. -/
def fnSumInsertedWrong : ChangeSpec := { name := "fnSumInserted", fn := fun _ => fun
  | [d] => { results := [.lit (.bool false)], args := [d] }
  | _ => none }
def FnSumInsertedWrongFalsely : Prop := fnSumInsertedRow.holds Try.pinned (OpenSpec.ofChange fnSumInsertedWrong)

/-- 'laws.FnSumUpdated': WHATEVER THE INPUT: true; the input reads as it did. -/
def fnSumUpdatedSpec : ChangeSpec := { name := "fnSumUpdated", fn := fun _ => fun
  | [d] => { results := [.lit (.bool true)], args := [d] }
  | _ => none }
def fnSumUpdatedRow : OpenClaim := { program := "ytnihigfpaalmgaa", sum := "3be9b4cb0cd57a5da0d14c8f9bdbeca7f5787a9883936eec1bdb7c53bc7e544d", func := "loop.example/g03312/laws.FnSumUpdated", spec := "fnSumUpdated", apart := false }
def FnSumUpdatedSaid : Prop := fnSumUpdatedRow.holds Try.pinned (OpenSpec.ofChange fnSumUpdatedSpec)

/-- ITS FALSE NEIGHBOUR: 'it returns false'. Refute it at one input. -/
def fnSumUpdatedWrong : ChangeSpec := { name := "fnSumUpdated", fn := fun _ => fun
  | [d] => { results := [.lit (.bool false)], args := [d] }
  | _ => none }
def FnSumUpdatedWrongFalsely : Prop := fnSumUpdatedRow.holds Try.pinned (OpenSpec.ofChange fnSumUpdatedWrong)

/-- 'laws.FnWords': WHATEVER THE INPUT: true; the input reads as it did. -/
def fnWordsSpec : ChangeSpec := { name := "fnWords", fn := fun _ => fun
  | [d] => { results := [.lit (.bool true)], args := [d] }
  | _ => none }
def fnWordsRow : OpenClaim := { program := "ytnihigfpaalmgaa", sum := "3be9b4cb0cd57a5da0d14c8f9bdbeca7f5787a9883936eec1bdb7c53bc7e544d", func := "loop.example/g03312/laws.FnWords", spec := "fnWords", apart := false }
def FnWordsSaid : Prop := fnWordsRow.holds Try.pinned (OpenSpec.ofChange fnWordsSpec)

/-- ITS FALSE NEIGHBOUR: 'it returns false'. Refute it at one input. -/
def fnWordsWrong : ChangeSpec := { name := "fnWords", fn := fun _ => fun
  | [d] => { results := [.lit (.bool false)], args := [d] }
  | _ => none }
def FnWordsWrongFalsely : Prop := fnWordsRow.holds Try.pinned (OpenSpec.ofChange fnWordsWrong)

/-- 'laws.FnCrcSees': WHATEVER THE INPUT: true; the input reads as it did. -/
def fnCrcSeesSpec : ChangeSpec := { name := "fnCrcSees", fn := fun _ => fun
  | [d] => { results := [.lit (.bool true)], args := [d] }
  | _ => none }
def fnCrcSeesRow : OpenClaim := { program := "ytnihigfpaalmgaa", sum := "3be9b4cb0cd57a5da0d14c8f9bdbeca7f5787a9883936eec1bdb7c53bc7e544d", func := "loop.example/g03312/laws.FnCrcSees", spec := "fnCrcSees", apart := false }
def FnCrcSeesSaid : Prop := fnCrcSeesRow.holds Try.pinned (OpenSpec.ofChange fnCrcSeesSpec)

/-- ITS FALSE NEIGHBOUR: 'it returns false'. Refute it at one input. -/
def fnCrcSeesWrong : ChangeSpec := { name := "fnCrcSees", fn := fun _ => fun
  | [d] => { results := [.lit (.bool false)], args := [d] }
  | _ => none }
def FnCrcSeesWrongFalsely : Prop := fnCrcSeesRow.holds Try.pinned (OpenSpec.ofChange fnCrcSeesWrong)

/-- 'laws.FnExactWord16': WHATEVER THE INPUT: true; the input reads as it did. -/
def fnExactWord16Spec : ChangeSpec := { name := "fnExactWord16", fn := fun _ => fun
  | [d] => { results := [.lit (.bool true)], args := [d] }
  | _ => none }
def fnExactWord16Row : OpenClaim := { program := "ytnihigfpaalmgaa", sum := "3be9b4cb0cd57a5da0d14c8f9bdbeca7f5787a9883936eec1bdb7c53bc7e544d", func := "loop.example/g03312/laws.FnExactWord16", spec := "fnExactWord16", apart := false }
def FnExactWord16Said : Prop := fnExactWord16Row.holds Try.pinned (OpenSpec.ofChange fnExactWord16Spec)

/-- ITS FALSE NEIGHBOUR: 'it returns false'. Refute it at one input. -/
def fnExactWord16Wrong : ChangeSpec := { name := "fnExactWord16", fn := fun _ => fun
  | [d] => { results := [.lit (.bool false)], args := [d] }
  | _ => none }
def FnExactWord16WrongFalsely : Prop := fnExactWord16Row.holds Try.pinned (OpenSpec.ofChange fnExactWord16Wrong)

/-- 'laws.FnExactWord32': WHATEVER THE INPUT: true; the input reads as it did. -/
def fnExactWord32Spec : ChangeSpec := { name := "fnExactWord32", fn := fun _ => fun
  | [d] => { results := [.lit (.bool true)], args := [d] }
  | _ => none }
def fnExactWord32Row : OpenClaim := { program := "ytnihigfpaalmgaa", sum := "3be9b4cb0cd57a5da0d14c8f9bdbeca7f5787a9883936eec1bdb7c53bc7e544d", func := "loop.example/g03312/laws.FnExactWord32", spec := "fnExactWord32", apart := false }
def FnExactWord32Said : Prop := fnExactWord32Row.holds Try.pinned (OpenSpec.ofChange fnExactWord32Spec)

/-- ITS FALSE NEIGHBOUR: 'it returns false'. Refute it at one input. -/
def fnExactWord32Wrong : ChangeSpec := { name := "fnExactWord32", fn := fun _ => fun
  | [d] => { results := [.lit (.bool false)], args := [d] }
  | _ => none }
def FnExactWord32WrongFalsely : Prop := fnExactWord32Row.holds Try.pinned (OpenSpec.ofChange fnExactWord32Wrong)

/-- 'laws.FnExactGet16': WHATEVER THE INPUT: true; the input reads as it did. -/
def fnExactGet16Spec : ChangeSpec := { name := "fnExactGet16", fn := fun _ => fun
  | [d1, d2] => { results := [.lit (.bool true)], args := [d1, d2] }
  | _ => none }
def fnExactGet16Row : OpenClaim := { program := "ytnihigfpaalmgaa", sum := "3be9b4cb0cd57a5da0d14c8f9bdbeca7f5787a9883936eec1bdb7c53bc7e544d", func := "loop.example/g03312/laws.FnExactGet16", spec := "fnExactGet16", apart := false }
def FnExactGet16Said : Prop := fnExactGet16Row.holds Try.pinned (OpenSpec.ofChange fnExactGet16Spec)

/-- ITS FALSE NEIGHBOUR: 'it returns false'. Refute it at one input. -/
def fnExactGet16Wrong : ChangeSpec := { name := "fnExactGet16", fn := fun _ => fun
  | [d1, d2] => { results := [.lit (.bool false)], args := [d1, d2] }
  | _ => none }
def FnExactGet16WrongFalsely : Prop := fnExactGet16Row.holds Try.pinned (OpenSpec.ofChange fnExactGet16Wrong)

/-- 'laws.FnExactGet32': WHATEVER THE INPUT: true; the input reads as it did. -/
def fnExactGet32Spec : ChangeSpec := { name := "fnExactGet32", fn := fun _ => fun
  | [d1, d2] => { results := [.lit (.bool true)], args := [d1, d2] }
  | _ => none }
def fnExactGet32Row : OpenClaim := { program := "ytnihigfpaalmgaa", sum := "3be9b4cb0cd57a5da0d14c8f9bdbeca7f5787a9883936eec1bdb7c53bc7e544d", func := "loop.example/g03312/laws.FnExactGet32", spec := "fnExactGet32", apart := false }
def FnExactGet32Said : Prop := fnExactGet32Row.holds Try.pinned (OpenSpec.ofChange fnExactGet32Spec)

/-- ITS FALSE NEIGHBOUR: 'it returns false'. Refute it at one input. -/
def fnExactGet32Wrong : ChangeSpec := { name := "fnExactGet32", fn := fun _ => fun
  | [d1, d2] => { results := [.lit (.bool false)], args := [d1, d2] }
  | _ => none }
def FnExactGet32WrongFalsely : Prop := fnExactGet32Row.holds Try.pinned (OpenSpec.ofChange fnExactGet32Wrong)

/-- 'laws.FnExactPutBytes': WHATEVER THE INPUT: true; the input reads as it did. -/
def fnExactPutBytesSpec : ChangeSpec := { name := "fnExactPutBytes", fn := fun _ => fun
  | [d1, d2, d3] => { results := [.lit (.bool true)], args := [d1, d2, d3] }
  | _ => none }
def fnExactPutBytesRow : OpenClaim := { program := "ytnihigfpaalmgaa", sum := "3be9b4cb0cd57a5da0d14c8f9bdbeca7f5787a9883936eec1bdb7c53bc7e544d", func := "loop.example/g03312/laws.FnExactPutBytes", spec := "fnExactPutBytes", apart := false }
def FnExactPutBytesSaid : Prop := fnExactPutBytesRow.holds Try.pinned (OpenSpec.ofChange fnExactPutBytesSpec)

/-- ITS FALSE NEIGHBOUR: 'it returns false'. Refute it at one input. -/
def fnExactPutBytesWrong : ChangeSpec := { name := "fnExactPutBytes", fn := fun _ => fun
  | [d1, d2, d3] => { results := [.lit (.bool false)], args := [d1, d2, d3] }
  | _ => none }
def FnExactPutBytesWrongFalsely : Prop := fnExactPutBytesRow.holds Try.pinned (OpenSpec.ofChange fnExactPutBytesWrong)

/-- 'laws.FnExactAddSums': WHATEVER THE INPUT: true; the input reads as it did. -/
def fnExactAddSumsSpec : ChangeSpec := { name := "fnExactAddSums", fn := fun _ => fun
  | [d1, d2] => { results := [.lit (.bool true)], args := [d1, d2] }
  | _ => none }
def fnExactAddSumsRow : OpenClaim := { program := "ytnihigfpaalmgaa", sum := "3be9b4cb0cd57a5da0d14c8f9bdbeca7f5787a9883936eec1bdb7c53bc7e544d", func := "loop.example/g03312/laws.FnExactAddSums", spec := "fnExactAddSums", apart := false }
def FnExactAddSumsSaid : Prop := fnExactAddSumsRow.holds Try.pinned (OpenSpec.ofChange fnExactAddSumsSpec)

/-- ITS FALSE NEIGHBOUR: 'it returns false'. Refute it at one input. -/
def fnExactAddSumsWrong : ChangeSpec := { name := "fnExactAddSums", fn := fun _ => fun
  | [d1, d2] => { results := [.lit (.bool false)], args := [d1, d2] }
  | _ => none }
def FnExactAddSumsWrongFalsely : Prop := fnExactAddSumsRow.holds Try.pinned (OpenSpec.ofChange fnExactAddSumsWrong)

/-- 'laws.FnExactSumWords': WHATEVER THE INPUT: true; the input reads as it did. -/
def fnExactSumWordsSpec : ChangeSpec := { name := "fnExactSumWords", fn := fun _ => fun
  | [d] => { results := [.lit (.bool true)], args := [d] }
  | _ => none }
def fnExactSumWordsRow : OpenClaim := { program := "ytnihigfpaalmgaa", sum := "3be9b4cb0cd57a5da0d14c8f9bdbeca7f5787a9883936eec1bdb7c53bc7e544d", func := "loop.example/g03312/laws.FnExactSumWords", spec := "fnExactSumWords", apart := false }
def FnExactSumWordsSaid : Prop := fnExactSumWordsRow.holds Try.pinned (OpenSpec.ofChange fnExactSumWordsSpec)

/-- ITS FALSE NEIGHBOUR: 'it returns false'. Refute it at one input. -/
def fnExactSumWordsWrong : ChangeSpec := { name := "fnExactSumWords", fn := fun _ => fun
  | [d] => { results := [.lit (.bool false)], args := [d] }
  | _ => none }
def FnExactSumWordsWrongFalsely : Prop := fnExactSumWordsRow.holds Try.pinned (OpenSpec.ofChange fnExactSumWordsWrong)

/-- 'laws.FnExactChecksum': WHATEVER THE INPUT: true; the input reads as it did. -/
def fnExactChecksumSpec : ChangeSpec := { name := "fnExactChecksum", fn := fun _ => fun
  | [d] => { results := [.lit (.bool true)], args := [d] }
  | _ => none }
def fnExactChecksumRow : OpenClaim := { program := "ytnihigfpaalmgaa", sum := "3be9b4cb0cd57a5da0d14c8f9bdbeca7f5787a9883936eec1bdb7c53bc7e544d", func := "loop.example/g03312/laws.FnExactChecksum", spec := "fnExactChecksum", apart := false }
def FnExactChecksumSaid : Prop := fnExactChecksumRow.holds Try.pinned (OpenSpec.ofChange fnExactChecksumSpec)

/-- ITS FALSE NEIGHBOUR: 'it returns false'. Refute it at one input. -/
def fnExactChecksumWrong : ChangeSpec := { name := "fnExactChecksum", fn := fun _ => fun
  | [d] => { results := [.lit (.bool false)], args := [d] }
  | _ => none }
def FnExactChecksumWrongFalsely : Prop := fnExactChecksumRow.holds Try.pinned (OpenSpec.ofChange fnExactChecksumWrong)

/-- 'laws.FnExactUpdateChecksum': WHATEVER THE INPUT: true; the input reads as it did. -/
def fnExactUpdateChecksumSpec : ChangeSpec := { name := "fnExactUpdateChecksum", fn := fun _ => fun
  | [d1, d2, d3] => { results := [.lit (.bool true)], args := [d1, d2, d3] }
  | _ => none }
def fnExactUpdateChecksumRow : OpenClaim := { program := "ytnihigfpaalmgaa", sum := "3be9b4cb0cd57a5da0d14c8f9bdbeca7f5787a9883936eec1bdb7c53bc7e544d", func := "loop.example/g03312/laws.FnExactUpdateChecksum", spec := "fnExactUpdateChecksum", apart := false }
def FnExactUpdateChecksumSaid : Prop := fnExactUpdateChecksumRow.holds Try.pinned (OpenSpec.ofChange fnExactUpdateChecksumSpec)

/-- ITS FALSE NEIGHBOUR: 'it returns false'. Refute it at one input. -/
def fnExactUpdateChecksumWrong : ChangeSpec := { name := "fnExactUpdateChecksum", fn := fun _ => fun
  | [d1, d2, d3] => { results := [.lit (.bool false)], args := [d1, d2, d3] }
  | _ => none }
def FnExactUpdateChecksumWrongFalsely : Prop := fnExactUpdateChecksumRow.holds Try.pinned (OpenSpec.ofChange fnExactUpdateChecksumWrong)

/-- 'laws.FnExactCrc32': WHATEVER THE INPUT: true; the input reads as it did. -/
def fnExactCrc32Spec : ChangeSpec := { name := "fnExactCrc32", fn := fun _ => fun
  | [d] => { results := [.lit (.bool true)], args := [d] }
  | _ => none }
def fnExactCrc32Row : OpenClaim := { program := "ytnihigfpaalmgaa", sum := "3be9b4cb0cd57a5da0d14c8f9bdbeca7f5787a9883936eec1bdb7c53bc7e544d", func := "loop.example/g03312/laws.FnExactCrc32", spec := "fnExactCrc32", apart := false }
def FnExactCrc32Said : Prop := fnExactCrc32Row.holds Try.pinned (OpenSpec.ofChange fnExactCrc32Spec)

/-- ITS FALSE NEIGHBOUR: 'it returns false'. Refute it at one input. -/
def fnExactCrc32Wrong : ChangeSpec := { name := "fnExactCrc32", fn := fun _ => fun
  | [d] => { results := [.lit (.bool false)], args := [d] }
  | _ => none }
def FnExactCrc32WrongFalsely : Prop := fnExactCrc32Row.holds Try.pinned (OpenSpec.ofChange fnExactCrc32Wrong)

/-- 'laws.FnExactWithFcs': WHATEVER THE INPUT: true; the input reads as it did. -/
def fnExactWithFcsSpec : ChangeSpec := { name := "fnExactWithFcs", fn := fun _ => fun
  | [d] => { results := [.lit (.bool true)], args := [d] }
  | _ => none }
def fnExactWithFcsRow : OpenClaim := { program := "ytnihigfpaalmgaa", sum := "3be9b4cb0cd57a5da0d14c8f9bdbeca7f5787a9883936eec1bdb7c53bc7e544d", func := "loop.example/g03312/laws.FnExactWithFcs", spec := "fnExactWithFcs", apart := false }
def FnExactWithFcsSaid : Prop := fnExactWithFcsRow.holds Try.pinned (OpenSpec.ofChange fnExactWithFcsSpec)

/-- ITS FALSE NEIGHBOUR: 'it returns false'. Refute it at one input. -/
def fnExactWithFcsWrong : ChangeSpec := { name := "fnExactWithFcs", fn := fun _ => fun
  | [d] => { results := [.lit (.bool false)], args := [d] }
  | _ => none }
def FnExactWithFcsWrongFalsely : Prop := fnExactWithFcsRow.holds Try.pinned (OpenSpec.ofChange fnExactWithFcsWrong)

/-- 'laws.FnExactCheckFcs': WHATEVER THE INPUT: true; the input reads as it did. -/
def fnExactCheckFcsSpec : ChangeSpec := { name := "fnExactCheckFcs", fn := fun _ => fun
  | [d] => { results := [.lit (.bool true)], args := [d] }
  | _ => none }
def fnExactCheckFcsRow : OpenClaim := { program := "ytnihigfpaalmgaa", sum := "3be9b4cb0cd57a5da0d14c8f9bdbeca7f5787a9883936eec1bdb7c53bc7e544d", func := "loop.example/g03312/laws.FnExactCheckFcs", spec := "fnExactCheckFcs", apart := false }
def FnExactCheckFcsSaid : Prop := fnExactCheckFcsRow.holds Try.pinned (OpenSpec.ofChange fnExactCheckFcsSpec)

/-- ITS FALSE NEIGHBOUR: 'it returns false'. Refute it at one input. -/
def fnExactCheckFcsWrong : ChangeSpec := { name := "fnExactCheckFcs", fn := fun _ => fun
  | [d] => { results := [.lit (.bool false)], args := [d] }
  | _ => none }
def FnExactCheckFcsWrongFalsely : Prop := fnExactCheckFcsRow.holds Try.pinned (OpenSpec.ofChange fnExactCheckFcsWrong)

/- THE SECOND FORM. 'bulk': how many values and letters a reading holds, each counted each time it is reached (what is shared counts as often as it is met; a slice's spare places count too). A statement '..UptoSaid' is the law's where the arguments, and the package variables that the reading takes, are together of bulk at most 1048576: NARROWER than '..Said'. Prove '..Said' where nothing that the law and all that it calls make is longer than what came in: it says more and counts as full. Else prove '..UptoSaid'. A law counts once. -/
mutual
def uptoBulk {H : Type} : DataW H → Nat
  | .lit (.string bytes) => bytes.length + 1
  | .lit _ => 1
  | .nil => 1
  | .ptr d => uptoBulk d + 1
  | .slice elems spare => uptoBulkAll elems + uptoBulkAll spare + 1
  | .agg parts => uptoBulkAll parts + 1
  | .iface _ d => uptoBulk d + 1
  | .map entries => uptoBulkEntries entries + 1
  | .held _ => 1
def uptoBulkAll {H : Type} : List (DataW H) → Nat
  | [] => 0
  | d :: r => uptoBulk d + uptoBulkAll r
def uptoBulkEntries {H : Type} : List (Lit × DataW H) → Nat
  | [] => 0
  | x :: r => uptoBulkEntry x + uptoBulkEntries r
def uptoBulkEntry {H : Type} : Lit × DataW H → Nat
  | (.string bytes, d) => bytes.length + uptoBulk d + 1
  | (_, d) => uptoBulk d + 1
 end
def uptoSmall : (H : Type) → List (DataW H) → Bool := fun _ ds => decide (uptoBulkAll ds ≤ 1048576)
def OpenSpec.upto (s : _root_.Go.ChangeSpec) : _root_.Go.OpenSpec := { _root_.Go.OpenSpec.ofChange s with cond := some uptoSmall }

/-- 'laws.FnSumInserted', WHERE WHAT IT READS IS OF BULK AT MOST 1048576: true; the input reads as it did. -/
def fnSumInsertedUptoRow : OpenClaim := { program := "ytnihigfpaalmgaa", sum := "3be9b4cb0cd57a5da0d14c8f9bdbeca7f5787a9883936eec1bdb7c53bc7e544d", func := "loop.example/g03312/laws.FnSumInserted", spec := "fnSumInserted", apart := false, narrowed := true }
def FnSumInsertedUptoSaid : Prop := fnSumInsertedUptoRow.holds Try.pinned (OpenSpec.upto fnSumInsertedSpec)

/-- 'laws.FnSumUpdated', WHERE WHAT IT READS IS OF BULK AT MOST 1048576: true; the input reads as it did. -/
def fnSumUpdatedUptoRow : OpenClaim := { program := "ytnihigfpaalmgaa", sum := "3be9b4cb0cd57a5da0d14c8f9bdbeca7f5787a9883936eec1bdb7c53bc7e544d", func := "loop.example/g03312/laws.FnSumUpdated", spec := "fnSumUpdated", apart := false, narrowed := true }
def FnSumUpdatedUptoSaid : Prop := fnSumUpdatedUptoRow.holds Try.pinned (OpenSpec.upto fnSumUpdatedSpec)

/-- 'laws.FnWords', WHERE WHAT IT READS IS OF BULK AT MOST 1048576: true; the input reads as it did. -/
def fnWordsUptoRow : OpenClaim := { program := "ytnihigfpaalmgaa", sum := "3be9b4cb0cd57a5da0d14c8f9bdbeca7f5787a9883936eec1bdb7c53bc7e544d", func := "loop.example/g03312/laws.FnWords", spec := "fnWords", apart := false, narrowed := true }
def FnWordsUptoSaid : Prop := fnWordsUptoRow.holds Try.pinned (OpenSpec.upto fnWordsSpec)

/-- 'laws.FnCrcSees', WHERE WHAT IT READS IS OF BULK AT MOST 1048576: true; the input reads as it did. -/
def fnCrcSeesUptoRow : OpenClaim := { program := "ytnihigfpaalmgaa", sum := "3be9b4cb0cd57a5da0d14c8f9bdbeca7f5787a9883936eec1bdb7c53bc7e544d", func := "loop.example/g03312/laws.FnCrcSees", spec := "fnCrcSees", apart := false, narrowed := true }
def FnCrcSeesUptoSaid : Prop := fnCrcSeesUptoRow.holds Try.pinned (OpenSpec.upto fnCrcSeesSpec)

/-- 'laws.FnExactWord16', WHERE WHAT IT READS IS OF BULK AT MOST 1048576: true; the input reads as it did. -/
def fnExactWord16UptoRow : OpenClaim := { program := "ytnihigfpaalmgaa", sum := "3be9b4cb0cd57a5da0d14c8f9bdbeca7f5787a9883936eec1bdb7c53bc7e544d", func := "loop.example/g03312/laws.FnExactWord16", spec := "fnExactWord16", apart := false, narrowed := true }
def FnExactWord16UptoSaid : Prop := fnExactWord16UptoRow.holds Try.pinned (OpenSpec.upto fnExactWord16Spec)

/-- 'laws.FnExactWord32', WHERE WHAT IT READS IS OF BULK AT MOST 1048576: true; the input reads as it did. -/
def fnExactWord32UptoRow : OpenClaim := { program := "ytnihigfpaalmgaa", sum := "3be9b4cb0cd57a5da0d14c8f9bdbeca7f5787a9883936eec1bdb7c53bc7e544d", func := "loop.example/g03312/laws.FnExactWord32", spec := "fnExactWord32", apart := false, narrowed := true }
def FnExactWord32UptoSaid : Prop := fnExactWord32UptoRow.holds Try.pinned (OpenSpec.upto fnExactWord32Spec)

/-- 'laws.FnExactGet16', WHERE WHAT IT READS IS OF BULK AT MOST 1048576: true; the input reads as it did. -/
def fnExactGet16UptoRow : OpenClaim := { program := "ytnihigfpaalmgaa", sum := "3be9b4cb0cd57a5da0d14c8f9bdbeca7f5787a9883936eec1bdb7c53bc7e544d", func := "loop.example/g03312/laws.FnExactGet16", spec := "fnExactGet16", apart := false, narrowed := true }
def FnExactGet16UptoSaid : Prop := fnExactGet16UptoRow.holds Try.pinned (OpenSpec.upto fnExactGet16Spec)

/-- 'laws.FnExactGet32', WHERE WHAT IT READS IS OF BULK AT MOST 1048576: true; the input reads as it did. -/
def fnExactGet32UptoRow : OpenClaim := { program := "ytnihigfpaalmgaa", sum := "3be9b4cb0cd57a5da0d14c8f9bdbeca7f5787a9883936eec1bdb7c53bc7e544d", func := "loop.example/g03312/laws.FnExactGet32", spec := "fnExactGet32", apart := false, narrowed := true }
def FnExactGet32UptoSaid : Prop := fnExactGet32UptoRow.holds Try.pinned (OpenSpec.upto fnExactGet32Spec)

/-- 'laws.FnExactPutBytes', WHERE WHAT IT READS IS OF BULK AT MOST 1048576: true; the input reads as it did. -/
def fnExactPutBytesUptoRow : OpenClaim := { program := "ytnihigfpaalmgaa", sum := "3be9b4cb0cd57a5da0d14c8f9bdbeca7f5787a9883936eec1bdb7c53bc7e544d", func := "loop.example/g03312/laws.FnExactPutBytes", spec := "fnExactPutBytes", apart := false, narrowed := true }
def FnExactPutBytesUptoSaid : Prop := fnExactPutBytesUptoRow.holds Try.pinned (OpenSpec.upto fnExactPutBytesSpec)

/-- 'laws.FnExactAddSums', WHERE WHAT IT READS IS OF BULK AT MOST 1048576: true; the input reads as it did. -/
def fnExactAddSumsUptoRow : OpenClaim := { program := "ytnihigfpaalmgaa", sum := "3be9b4cb0cd57a5da0d14c8f9bdbeca7f5787a9883936eec1bdb7c53bc7e544d", func := "loop.example/g03312/laws.FnExactAddSums", spec := "fnExactAddSums", apart := false, narrowed := true }
def FnExactAddSumsUptoSaid : Prop := fnExactAddSumsUptoRow.holds Try.pinned (OpenSpec.upto fnExactAddSumsSpec)

/-- 'laws.FnExactSumWords', WHERE WHAT IT READS IS OF BULK AT MOST 1048576: true; the input reads as it did. -/
def fnExactSumWordsUptoRow : OpenClaim := { program := "ytnihigfpaalmgaa", sum := "3be9b4cb0cd57a5da0d14c8f9bdbeca7f5787a9883936eec1bdb7c53bc7e544d", func := "loop.example/g03312/laws.FnExactSumWords", spec := "fnExactSumWords", apart := false, narrowed := true }
def FnExactSumWordsUptoSaid : Prop := fnExactSumWordsUptoRow.holds Try.pinned (OpenSpec.upto fnExactSumWordsSpec)

/-- 'laws.FnExactChecksum', WHERE WHAT IT READS IS OF BULK AT MOST 1048576: true; the input reads as it did. -/
def fnExactChecksumUptoRow : OpenClaim := { program := "ytnihigfpaalmgaa", sum := "3be9b4cb0cd57a5da0d14c8f9bdbeca7f5787a9883936eec1bdb7c53bc7e544d", func := "loop.example/g03312/laws.FnExactChecksum", spec := "fnExactChecksum", apart := false, narrowed := true }
def FnExactChecksumUptoSaid : Prop := fnExactChecksumUptoRow.holds Try.pinned (OpenSpec.upto fnExactChecksumSpec)

/-- 'laws.FnExactUpdateChecksum', WHERE WHAT IT READS IS OF BULK AT MOST 1048576: true; the input reads as it did. -/
def fnExactUpdateChecksumUptoRow : OpenClaim := { program := "ytnihigfpaalmgaa", sum := "3be9b4cb0cd57a5da0d14c8f9bdbeca7f5787a9883936eec1bdb7c53bc7e544d", func := "loop.example/g03312/laws.FnExactUpdateChecksum", spec := "fnExactUpdateChecksum", apart := false, narrowed := true }
def FnExactUpdateChecksumUptoSaid : Prop := fnExactUpdateChecksumUptoRow.holds Try.pinned (OpenSpec.upto fnExactUpdateChecksumSpec)

/-- 'laws.FnExactCrc32', WHERE WHAT IT READS IS OF BULK AT MOST 1048576: true; the input reads as it did. -/
def fnExactCrc32UptoRow : OpenClaim := { program := "ytnihigfpaalmgaa", sum := "3be9b4cb0cd57a5da0d14c8f9bdbeca7f5787a9883936eec1bdb7c53bc7e544d", func := "loop.example/g03312/laws.FnExactCrc32", spec := "fnExactCrc32", apart := false, narrowed := true }
def FnExactCrc32UptoSaid : Prop := fnExactCrc32UptoRow.holds Try.pinned (OpenSpec.upto fnExactCrc32Spec)

/-- 'laws.FnExactWithFcs', WHERE WHAT IT READS IS OF BULK AT MOST 1048576: true; the input reads as it did. -/
def fnExactWithFcsUptoRow : OpenClaim := { program := "ytnihigfpaalmgaa", sum := "3be9b4cb0cd57a5da0d14c8f9bdbeca7f5787a9883936eec1bdb7c53bc7e544d", func := "loop.example/g03312/laws.FnExactWithFcs", spec := "fnExactWithFcs", apart := false, narrowed := true }
def FnExactWithFcsUptoSaid : Prop := fnExactWithFcsUptoRow.holds Try.pinned (OpenSpec.upto fnExactWithFcsSpec)

/-- 'laws.FnExactCheckFcs', WHERE WHAT IT READS IS OF BULK AT MOST 1048576: true; the input reads as it did. -/
def fnExactCheckFcsUptoRow : OpenClaim := { program := "ytnihigfpaalmgaa", sum := "3be9b4cb0cd57a5da0d14c8f9bdbeca7f5787a9883936eec1bdb7c53bc7e544d", func := "loop.example/g03312/laws.FnExactCheckFcs", spec := "fnExactCheckFcs", apart := false, narrowed := true }
def FnExactCheckFcsUptoSaid : Prop := fnExactCheckFcsUptoRow.holds Try.pinned (OpenSpec.upto fnExactCheckFcsSpec)

end Rows
end Go.Proofs.Ytnihigfpaalmgaa
