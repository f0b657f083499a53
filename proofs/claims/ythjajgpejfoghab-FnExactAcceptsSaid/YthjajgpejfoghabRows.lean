/-
  No cell of these rows narrows 'for every input' (looked for: loops, veiled, ifaces, maps, wideKeys, modest, calm, conditions, laid).
  DERIVED. THE GIVEN ROWS OF THIS SEAT. 13 by the template 'for every input the law returns true; each argument reads behind the call as it read before'; 0 by the template 'total and deterministic' (their statements: YthjajgpejfoghabTotals.lean).
  GIVEN WITH THE SEED: the statements are not yours to turn. If you find one false, say at which input.
  Laid BY PROGRAM, IN A SANDBOX (cutbox-rows.mjs): the forced cells as the released guide's own fill.sh prints them over the translation 2619d46f52de5342… (all of the seat's roots in one cut). By AI agents, Wed Nov 11 2026. No macro, syntax, notation, axiom, sorry.
-/
import Derived.Test.YthjajgpejfoghabChecked
import GoSem.Claim
import GoSem.ClaimJoined
import GoSem.ClaimMapViews
import Derived.JoinedTies
import Derived.KernelRfl
namespace Go.Proofs.Ythjajgpejfoghab
/- THE CELL 'sum', in the pinned program and in every row, IS THE sha256 OF THE DUMP (.gsa) THAT YthjajgpejfoghabProg.lean LOADS. Nothing in Lean hashes anything: it is a label: what it is worth is what the hold of that sum in a sandbox is worth. -/
noncomputable def Try.pinned : Pinned := { name := "ythjajgpejfoghab", sum := "2619d46f52de5342c6f880626f5bd0a3d9eb441b18f598b5dc0a9688fde4151d", checked := Try.checked }
namespace Rows
def none {H : Type} : Left H := { results := [], args := [] }

/-- 'laws.FnExactSpreadOk': WHATEVER THE INPUT: true; the input reads as it did. -/
def fnExactSpreadOkSpec : ChangeSpec := { name := "fnExactSpreadOk", fn := fun _ => fun
  | [d1, d2] => { results := [.lit (.bool true)], args := [d1, d2] }
  | _ => none }
def fnExactSpreadOkRow : OpenClaim := { program := "ythjajgpejfoghab", sum := "2619d46f52de5342c6f880626f5bd0a3d9eb441b18f598b5dc0a9688fde4151d", func := "loop.example/g03312/laws.FnExactSpreadOk", spec := "fnExactSpreadOk", unfollowed := true, recurses := true, apart := false }
def FnExactSpreadOkSaid : Prop := fnExactSpreadOkRow.holds Try.pinned (OpenSpec.ofChange fnExactSpreadOkSpec)

/-- ITS FALSE NEIGHBOUR: 'it returns false'. Refute it at one input. -/
def fnExactSpreadOkWrong : ChangeSpec := { name := "fnExactSpreadOk", fn := fun _ => fun
  | [d1, d2] => { results := [.lit (.bool false)], args := [d1, d2] }
  | _ => none }
def FnExactSpreadOkWrongFalsely : Prop := fnExactSpreadOkRow.holds Try.pinned (OpenSpec.ofChange fnExactSpreadOkWrong)

/-- 'laws.FnExactEntryOf': WHATEVER THE INPUT: true; the input reads as it did. -/
def fnExactEntryOfSpec : ChangeSpec := { name := "fnExactEntryOf", fn := fun _ => fun
  | [d1, d2] => { results := [.lit (.bool true)], args := [d1, d2] }
  | _ => none }
def fnExactEntryOfRow : OpenClaim := { program := "ythjajgpejfoghab", sum := "2619d46f52de5342c6f880626f5bd0a3d9eb441b18f598b5dc0a9688fde4151d", func := "loop.example/g03312/laws.FnExactEntryOf", spec := "fnExactEntryOf", unfollowed := true, recurses := true, apart := false }
def FnExactEntryOfSaid : Prop := fnExactEntryOfRow.holds Try.pinned (OpenSpec.ofChange fnExactEntryOfSpec)

/-- ITS FALSE NEIGHBOUR: 'it returns false'. Refute it at one input. -/
def fnExactEntryOfWrong : ChangeSpec := { name := "fnExactEntryOf", fn := fun _ => fun
  | [d1, d2] => { results := [.lit (.bool false)], args := [d1, d2] }
  | _ => none }
def FnExactEntryOfWrongFalsely : Prop := fnExactEntryOfRow.holds Try.pinned (OpenSpec.ofChange fnExactEntryOfWrong)

/-- 'laws.FnExactSpreadQueue': WHATEVER THE INPUT: true; the input reads as it did. -/
def fnExactSpreadQueueSpec : ChangeSpec := { name := "fnExactSpreadQueue", fn := fun _ => fun
  | [d1, d2, d3] => { results := [.lit (.bool true)], args := [d1, d2, d3] }
  | _ => none }
def fnExactSpreadQueueRow : OpenClaim := { program := "ythjajgpejfoghab", sum := "2619d46f52de5342c6f880626f5bd0a3d9eb441b18f598b5dc0a9688fde4151d", func := "loop.example/g03312/laws.FnExactSpreadQueue", spec := "fnExactSpreadQueue", unfollowed := true, recurses := true, apart := false }
def FnExactSpreadQueueSaid : Prop := fnExactSpreadQueueRow.holds Try.pinned (OpenSpec.ofChange fnExactSpreadQueueSpec)

/-- ITS FALSE NEIGHBOUR: 'it returns false'. Refute it at one input. -/
def fnExactSpreadQueueWrong : ChangeSpec := { name := "fnExactSpreadQueue", fn := fun _ => fun
  | [d1, d2, d3] => { results := [.lit (.bool false)], args := [d1, d2, d3] }
  | _ => none }
def FnExactSpreadQueueWrongFalsely : Prop := fnExactSpreadQueueRow.holds Try.pinned (OpenSpec.ofChange fnExactSpreadQueueWrong)

/-- 'laws.FnExactPoolOk': WHATEVER THE INPUT: true; the input reads as it did. -/
def fnExactPoolOkSpec : ChangeSpec := { name := "fnExactPoolOk", fn := fun _ => fun
  | [d] => { results := [.lit (.bool true)], args := [d] }
  | _ => none }
def fnExactPoolOkRow : OpenClaim := { program := "ythjajgpejfoghab", sum := "2619d46f52de5342c6f880626f5bd0a3d9eb441b18f598b5dc0a9688fde4151d", func := "loop.example/g03312/laws.FnExactPoolOk", spec := "fnExactPoolOk", unfollowed := true, recurses := true, apart := false }
def FnExactPoolOkSaid : Prop := fnExactPoolOkRow.holds Try.pinned (OpenSpec.ofChange fnExactPoolOkSpec)

/-- ITS FALSE NEIGHBOUR: 'it returns false'. Refute it at one input. -/
def fnExactPoolOkWrong : ChangeSpec := { name := "fnExactPoolOk", fn := fun _ => fun
  | [d] => { results := [.lit (.bool false)], args := [d] }
  | _ => none }
def FnExactPoolOkWrongFalsely : Prop := fnExactPoolOkRow.holds Try.pinned (OpenSpec.ofChange fnExactPoolOkWrong)

/-- 'laws.FnExactBufferAddress': WHATEVER THE INPUT: true; the input reads as it did. -/
def fnExactBufferAddressSpec : ChangeSpec := { name := "fnExactBufferAddress", fn := fun _ => fun
  | [d1, d2] => { results := [.lit (.bool true)], args := [d1, d2] }
  | _ => none }
def fnExactBufferAddressRow : OpenClaim := { program := "ythjajgpejfoghab", sum := "2619d46f52de5342c6f880626f5bd0a3d9eb441b18f598b5dc0a9688fde4151d", func := "loop.example/g03312/laws.FnExactBufferAddress", spec := "fnExactBufferAddress", unfollowed := true, recurses := true, apart := false }
def FnExactBufferAddressSaid : Prop := fnExactBufferAddressRow.holds Try.pinned (OpenSpec.ofChange fnExactBufferAddressSpec)

/-- ITS FALSE NEIGHBOUR: 'it returns false'. Refute it at one input. -/
def fnExactBufferAddressWrong : ChangeSpec := { name := "fnExactBufferAddress", fn := fun _ => fun
  | [d1, d2] => { results := [.lit (.bool false)], args := [d1, d2] }
  | _ => none }
def FnExactBufferAddressWrongFalsely : Prop := fnExactBufferAddressRow.holds Try.pinned (OpenSpec.ofChange fnExactBufferAddressWrong)

/-- 'laws.FnExactFilterOk': WHATEVER THE INPUT: true; the input reads as it did. -/
def fnExactFilterOkSpec : ChangeSpec := { name := "fnExactFilterOk", fn := fun _ => fun
  | [d] => { results := [.lit (.bool true)], args := [d] }
  | _ => none }
def fnExactFilterOkRow : OpenClaim := { program := "ythjajgpejfoghab", sum := "2619d46f52de5342c6f880626f5bd0a3d9eb441b18f598b5dc0a9688fde4151d", func := "loop.example/g03312/laws.FnExactFilterOk", spec := "fnExactFilterOk", unfollowed := true, recurses := true, apart := false }
def FnExactFilterOkSaid : Prop := fnExactFilterOkRow.holds Try.pinned (OpenSpec.ofChange fnExactFilterOkSpec)

/-- ITS FALSE NEIGHBOUR: 'it returns false'. Refute it at one input. -/
def fnExactFilterOkWrong : ChangeSpec := { name := "fnExactFilterOk", fn := fun _ => fun
  | [d] => { results := [.lit (.bool false)], args := [d] }
  | _ => none }
def FnExactFilterOkWrongFalsely : Prop := fnExactFilterOkRow.holds Try.pinned (OpenSpec.ofChange fnExactFilterOkWrong)

/-- 'laws.FnExactAccepts': WHATEVER THE INPUT: true; the input reads as it did. -/
def fnExactAcceptsSpec : ChangeSpec := { name := "fnExactAccepts", fn := fun _ => fun
  | [d1, d2] => { results := [.lit (.bool true)], args := [d1, d2] }
  | _ => none }
def fnExactAcceptsRow : OpenClaim := { program := "ythjajgpejfoghab", sum := "2619d46f52de5342c6f880626f5bd0a3d9eb441b18f598b5dc0a9688fde4151d", func := "loop.example/g03312/laws.FnExactAccepts", spec := "fnExactAccepts", unfollowed := true, recurses := true, apart := false }
def FnExactAcceptsSaid : Prop := fnExactAcceptsRow.holds Try.pinned (OpenSpec.ofChange fnExactAcceptsSpec)

/-- ITS FALSE NEIGHBOUR: 'it returns false'. Refute it at one input. -/
def fnExactAcceptsWrong : ChangeSpec := { name := "fnExactAccepts", fn := fun _ => fun
  | [d1, d2] => { results := [.lit (.bool false)], args := [d1, d2] }
  | _ => none }
def FnExactAcceptsWrongFalsely : Prop := fnExactAcceptsRow.holds Try.pinned (OpenSpec.ofChange fnExactAcceptsWrong)

/-- 'laws.FnExactNewTable': WHATEVER THE INPUT: true; the input reads as it did. -/
def fnExactNewTableSpec : ChangeSpec := { name := "fnExactNewTable", fn := fun _ => fun
  | [] => { results := [.lit (.bool true)], args := [] }
  | _ => none }
def fnExactNewTableRow : OpenClaim := { program := "ythjajgpejfoghab", sum := "2619d46f52de5342c6f880626f5bd0a3d9eb441b18f598b5dc0a9688fde4151d", func := "loop.example/g03312/laws.FnExactNewTable", spec := "fnExactNewTable", apart := false }
def FnExactNewTableSaid : Prop := fnExactNewTableRow.holds Try.pinned (OpenSpec.ofChange fnExactNewTableSpec)

/-- ITS FALSE NEIGHBOUR: 'it returns false'. Refute it at one input. -/
def fnExactNewTableWrong : ChangeSpec := { name := "fnExactNewTable", fn := fun _ => fun
  | [] => { results := [.lit (.bool false)], args := [] }
  | _ => none }
def FnExactNewTableWrongFalsely : Prop := fnExactNewTableRow.holds Try.pinned (OpenSpec.ofChange fnExactNewTableWrong)

/-- 'laws.FnExactNewPool': WHATEVER THE INPUT: true; the input reads as it did. -/
def fnExactNewPoolSpec : ChangeSpec := { name := "fnExactNewPool", fn := fun _ => fun
  | [d1, d2, d3] => { results := [.lit (.bool true)], args := [d1, d2, d3] }
  | _ => none }
def fnExactNewPoolRow : OpenClaim := { program := "ythjajgpejfoghab", sum := "2619d46f52de5342c6f880626f5bd0a3d9eb441b18f598b5dc0a9688fde4151d", func := "loop.example/g03312/laws.FnExactNewPool", spec := "fnExactNewPool", unfollowed := true, recurses := true, apart := false }
def FnExactNewPoolSaid : Prop := fnExactNewPoolRow.holds Try.pinned (OpenSpec.ofChange fnExactNewPoolSpec)

/-- ITS FALSE NEIGHBOUR: 'it returns false'. Refute it at one input. -/
def fnExactNewPoolWrong : ChangeSpec := { name := "fnExactNewPool", fn := fun _ => fun
  | [d1, d2, d3] => { results := [.lit (.bool false)], args := [d1, d2, d3] }
  | _ => none }
def FnExactNewPoolWrongFalsely : Prop := fnExactNewPoolRow.holds Try.pinned (OpenSpec.ofChange fnExactNewPoolWrong)

/-- 'laws.FnExactCutPieces': WHATEVER THE INPUT: true; the input reads as it did. -/
def fnExactCutPiecesSpec : ChangeSpec := { name := "fnExactCutPieces", fn := fun _ => fun
  | [d1, d2, d3] => { results := [.lit (.bool true)], args := [d1, d2, d3] }
  | _ => none }
def fnExactCutPiecesRow : OpenClaim := { program := "ythjajgpejfoghab", sum := "2619d46f52de5342c6f880626f5bd0a3d9eb441b18f598b5dc0a9688fde4151d", func := "loop.example/g03312/laws.FnExactCutPieces", spec := "fnExactCutPieces", apart := false }
def FnExactCutPiecesSaid : Prop := fnExactCutPiecesRow.holds Try.pinned (OpenSpec.ofChange fnExactCutPiecesSpec)

/-- ITS FALSE NEIGHBOUR: 'it returns false'. Refute it at one input. -/
def fnExactCutPiecesWrong : ChangeSpec := { name := "fnExactCutPieces", fn := fun _ => fun
  | [d1, d2, d3] => { results := [.lit (.bool false)], args := [d1, d2, d3] }
  | _ => none }
def FnExactCutPiecesWrongFalsely : Prop := fnExactCutPiecesRow.holds Try.pinned (OpenSpec.ofChange fnExactCutPiecesWrong)

/-- 'laws.FnExactNewMemory': WHATEVER THE INPUT: true; the input reads as it did. -/
def fnExactNewMemorySpec : ChangeSpec := { name := "fnExactNewMemory", fn := fun _ => fun
  | [d] => { results := [.lit (.bool true)], args := [d] }
  | _ => none }
def fnExactNewMemoryRow : OpenClaim := { program := "ythjajgpejfoghab", sum := "2619d46f52de5342c6f880626f5bd0a3d9eb441b18f598b5dc0a9688fde4151d", func := "loop.example/g03312/laws.FnExactNewMemory", spec := "fnExactNewMemory", inPlace := ["internal/abi.NoEscape", "internal/bytealg.MakeNoZero"], apart := false }
def FnExactNewMemorySaid : Prop := fnExactNewMemoryRow.holds Try.pinned (OpenSpec.ofChange fnExactNewMemorySpec)

/-- ITS FALSE NEIGHBOUR: 'it returns false'. Refute it at one input. -/
def fnExactNewMemoryWrong : ChangeSpec := { name := "fnExactNewMemory", fn := fun _ => fun
  | [d] => { results := [.lit (.bool false)], args := [d] }
  | _ => none }
def FnExactNewMemoryWrongFalsely : Prop := fnExactNewMemoryRow.holds Try.pinned (OpenSpec.ofChange fnExactNewMemoryWrong)

/-- 'laws.FnExactFunctionAt': WHATEVER THE INPUT: true; the input reads as it did. -/
def fnExactFunctionAtSpec : ChangeSpec := { name := "fnExactFunctionAt", fn := fun _ => fun
  | [d1, d2] => { results := [.lit (.bool true)], args := [d1, d2] }
  | _ => none }
def fnExactFunctionAtRow : OpenClaim := { program := "ythjajgpejfoghab", sum := "2619d46f52de5342c6f880626f5bd0a3d9eb441b18f598b5dc0a9688fde4151d", func := "loop.example/g03312/laws.FnExactFunctionAt", spec := "fnExactFunctionAt", unfollowed := true, recurses := true, apart := false }
def FnExactFunctionAtSaid : Prop := fnExactFunctionAtRow.holds Try.pinned (OpenSpec.ofChange fnExactFunctionAtSpec)

/-- ITS FALSE NEIGHBOUR: 'it returns false'. Refute it at one input. -/
def fnExactFunctionAtWrong : ChangeSpec := { name := "fnExactFunctionAt", fn := fun _ => fun
  | [d1, d2] => { results := [.lit (.bool false)], args := [d1, d2] }
  | _ => none }
def FnExactFunctionAtWrongFalsely : Prop := fnExactFunctionAtRow.holds Try.pinned (OpenSpec.ofChange fnExactFunctionAtWrong)

/-- 'laws.FnExactActOk': WHATEVER THE INPUT: true; the input reads as it did. -/
def fnExactActOkSpec : ChangeSpec := { name := "fnExactActOk", fn := fun _ => fun
  | [d] => { results := [.lit (.bool true)], args := [d] }
  | _ => none }
def fnExactActOkRow : OpenClaim := { program := "ythjajgpejfoghab", sum := "2619d46f52de5342c6f880626f5bd0a3d9eb441b18f598b5dc0a9688fde4151d", func := "loop.example/g03312/laws.FnExactActOk", spec := "fnExactActOk", apart := false }
def FnExactActOkSaid : Prop := fnExactActOkRow.holds Try.pinned (OpenSpec.ofChange fnExactActOkSpec)

/-- ITS FALSE NEIGHBOUR: 'it returns false'. Refute it at one input. -/
def fnExactActOkWrong : ChangeSpec := { name := "fnExactActOk", fn := fun _ => fun
  | [d] => { results := [.lit (.bool false)], args := [d] }
  | _ => none }
def FnExactActOkWrongFalsely : Prop := fnExactActOkRow.holds Try.pinned (OpenSpec.ofChange fnExactActOkWrong)

/- THE SECOND FORM. 'bulk': how many values and letters a reading holds, each counted each time it is reached (what is shared counts as often as it is met; a slice's spare places count too). A statement '..UptoSaid' is the law's where the arguments, and the package variables that the reading takes, are together of bulk at most 1048576: NARROWER than '..Said'. Prove '..Said' where nothing that the law and all that it calls make is longer than what came in: it says more and counts as full. Else prove '..UptoSaid'. A law counts once. -/
mutual
def uptoBulk {H : Type} : DataW H → Nat
  | .lit (.string bytes) => bytes.length + 1
  | .lit _ => 1
  | .nil => 1
  | .ptr d => uptoBulk d + 1
  | .slice elems spare => uptoBulkAll elems + uptoBulkAll spare + 1
  | .agg parts => uptoBulkAll parts + 1
  | .iface _ d => uptoBulk d + 1
  | .map entries => uptoBulkEntries entries + 1
  | .held _ => 1
def uptoBulkAll {H : Type} : List (DataW H) → Nat
  | [] => 0
  | d :: r => uptoBulk d + uptoBulkAll r
def uptoBulkEntries {H : Type} : List (Lit × DataW H) → Nat
  | [] => 0
  | x :: r => uptoBulkEntry x + uptoBulkEntries r
def uptoBulkEntry {H : Type} : Lit × DataW H → Nat
  | (.string bytes, d) => bytes.length + uptoBulk d + 1
  | (_, d) => uptoBulk d + 1
 end
def uptoSmall : (H : Type) → List (DataW H) → Bool := fun _ ds => decide (uptoBulkAll ds ≤ 1048576)
def OpenSpec.upto (s : _root_.Go.ChangeSpec) : _root_.Go.OpenSpec := { _root_.Go.OpenSpec.ofChange s with cond := some uptoSmall }

/-- 'laws.FnExactSpreadOk', WHERE WHAT IT READS IS OF BULK AT MOST 1048576: true; the input reads as it did. -/
def fnExactSpreadOkUptoRow : OpenClaim := { program := "ythjajgpejfoghab", sum := "2619d46f52de5342c6f880626f5bd0a3d9eb441b18f598b5dc0a9688fde4151d", func := "loop.example/g03312/laws.FnExactSpreadOk", spec := "fnExactSpreadOk", unfollowed := true, recurses := true, apart := false, narrowed := true }
def FnExactSpreadOkUptoSaid : Prop := fnExactSpreadOkUptoRow.holds Try.pinned (OpenSpec.upto fnExactSpreadOkSpec)

/-- 'laws.FnExactEntryOf', WHERE WHAT IT READS IS OF BULK AT MOST 1048576: true; the input reads as it did. -/
def fnExactEntryOfUptoRow : OpenClaim := { program := "ythjajgpejfoghab", sum := "2619d46f52de5342c6f880626f5bd0a3d9eb441b18f598b5dc0a9688fde4151d", func := "loop.example/g03312/laws.FnExactEntryOf", spec := "fnExactEntryOf", unfollowed := true, recurses := true, apart := false, narrowed := true }
def FnExactEntryOfUptoSaid : Prop := fnExactEntryOfUptoRow.holds Try.pinned (OpenSpec.upto fnExactEntryOfSpec)

/-- 'laws.FnExactSpreadQueue', WHERE WHAT IT READS IS OF BULK AT MOST 1048576: true; the input reads as it did. -/
def fnExactSpreadQueueUptoRow : OpenClaim := { program := "ythjajgpejfoghab", sum := "2619d46f52de5342c6f880626f5bd0a3d9eb441b18f598b5dc0a9688fde4151d", func := "loop.example/g03312/laws.FnExactSpreadQueue", spec := "fnExactSpreadQueue", unfollowed := true, recurses := true, apart := false, narrowed := true }
def FnExactSpreadQueueUptoSaid : Prop := fnExactSpreadQueueUptoRow.holds Try.pinned (OpenSpec.upto fnExactSpreadQueueSpec)

/-- 'laws.FnExactPoolOk', WHERE WHAT IT READS IS OF BULK AT MOST 1048576: true; the input reads as it did. -/
def fnExactPoolOkUptoRow : OpenClaim := { program := "ythjajgpejfoghab", sum := "2619d46f52de5342c6f880626f5bd0a3d9eb441b18f598b5dc0a9688fde4151d", func := "loop.example/g03312/laws.FnExactPoolOk", spec := "fnExactPoolOk", unfollowed := true, recurses := true, apart := false, narrowed := true }
def FnExactPoolOkUptoSaid : Prop := fnExactPoolOkUptoRow.holds Try.pinned (OpenSpec.upto fnExactPoolOkSpec)

/-- 'laws.FnExactBufferAddress', WHERE WHAT IT READS IS OF BULK AT MOST 1048576: true; the input reads as it did. -/
def fnExactBufferAddressUptoRow : OpenClaim := { program := "ythjajgpejfoghab", sum := "2619d46f52de5342c6f880626f5bd0a3d9eb441b18f598b5dc0a9688fde4151d", func := "loop.example/g03312/laws.FnExactBufferAddress", spec := "fnExactBufferAddress", unfollowed := true, recurses := true, apart := false, narrowed := true }
def FnExactBufferAddressUptoSaid : Prop := fnExactBufferAddressUptoRow.holds Try.pinned (OpenSpec.upto fnExactBufferAddressSpec)

/-- 'laws.FnExactFilterOk', WHERE WHAT IT READS IS OF BULK AT MOST 1048576: true; the input reads as it did. -/
def fnExactFilterOkUptoRow : OpenClaim := { program := "ythjajgpejfoghab", sum := "2619d46f52de5342c6f880626f5bd0a3d9eb441b18f598b5dc0a9688fde4151d", func := "loop.example/g03312/laws.FnExactFilterOk", spec := "fnExactFilterOk", unfollowed := true, recurses := true, apart := false, narrowed := true }
def FnExactFilterOkUptoSaid : Prop := fnExactFilterOkUptoRow.holds Try.pinned (OpenSpec.upto fnExactFilterOkSpec)

/-- 'laws.FnExactAccepts', WHERE WHAT IT READS IS OF BULK AT MOST 1048576: true; the input reads as it did. -/
def fnExactAcceptsUptoRow : OpenClaim := { program := "ythjajgpejfoghab", sum := "2619d46f52de5342c6f880626f5bd0a3d9eb441b18f598b5dc0a9688fde4151d", func := "loop.example/g03312/laws.FnExactAccepts", spec := "fnExactAccepts", unfollowed := true, recurses := true, apart := false, narrowed := true }
def FnExactAcceptsUptoSaid : Prop := fnExactAcceptsUptoRow.holds Try.pinned (OpenSpec.upto fnExactAcceptsSpec)

/-- 'laws.FnExactNewTable', WHERE WHAT IT READS IS OF BULK AT MOST 1048576: true; the input reads as it did. -/
def fnExactNewTableUptoRow : OpenClaim := { program := "ythjajgpejfoghab", sum := "2619d46f52de5342c6f880626f5bd0a3d9eb441b18f598b5dc0a9688fde4151d", func := "loop.example/g03312/laws.FnExactNewTable", spec := "fnExactNewTable", apart := false, narrowed := true }
def FnExactNewTableUptoSaid : Prop := fnExactNewTableUptoRow.holds Try.pinned (OpenSpec.upto fnExactNewTableSpec)

/-- 'laws.FnExactNewPool', WHERE WHAT IT READS IS OF BULK AT MOST 1048576: true; the input reads as it did. -/
def fnExactNewPoolUptoRow : OpenClaim := { program := "ythjajgpejfoghab", sum := "2619d46f52de5342c6f880626f5bd0a3d9eb441b18f598b5dc0a9688fde4151d", func := "loop.example/g03312/laws.FnExactNewPool", spec := "fnExactNewPool", unfollowed := true, recurses := true, apart := false, narrowed := true }
def FnExactNewPoolUptoSaid : Prop := fnExactNewPoolUptoRow.holds Try.pinned (OpenSpec.upto fnExactNewPoolSpec)

/-- 'laws.FnExactCutPieces', WHERE WHAT IT READS IS OF BULK AT MOST 1048576: true; the input reads as it did. -/
def fnExactCutPiecesUptoRow : OpenClaim := { program := "ythjajgpejfoghab", sum := "2619d46f52de5342c6f880626f5bd0a3d9eb441b18f598b5dc0a9688fde4151d", func := "loop.example/g03312/laws.FnExactCutPieces", spec := "fnExactCutPieces", apart := false, narrowed := true }
def FnExactCutPiecesUptoSaid : Prop := fnExactCutPiecesUptoRow.holds Try.pinned (OpenSpec.upto fnExactCutPiecesSpec)

/-- 'laws.FnExactNewMemory', WHERE WHAT IT READS IS OF BULK AT MOST 1048576: true; the input reads as it did. -/
def fnExactNewMemoryUptoRow : OpenClaim := { program := "ythjajgpejfoghab", sum := "2619d46f52de5342c6f880626f5bd0a3d9eb441b18f598b5dc0a9688fde4151d", func := "loop.example/g03312/laws.FnExactNewMemory", spec := "fnExactNewMemory", inPlace := ["internal/abi.NoEscape", "internal/bytealg.MakeNoZero"], apart := false, narrowed := true }
def FnExactNewMemoryUptoSaid : Prop := fnExactNewMemoryUptoRow.holds Try.pinned (OpenSpec.upto fnExactNewMemorySpec)

/-- 'laws.FnExactFunctionAt', WHERE WHAT IT READS IS OF BULK AT MOST 1048576: true; the input reads as it did. -/
def fnExactFunctionAtUptoRow : OpenClaim := { program := "ythjajgpejfoghab", sum := "2619d46f52de5342c6f880626f5bd0a3d9eb441b18f598b5dc0a9688fde4151d", func := "loop.example/g03312/laws.FnExactFunctionAt", spec := "fnExactFunctionAt", unfollowed := true, recurses := true, apart := false, narrowed := true }
def FnExactFunctionAtUptoSaid : Prop := fnExactFunctionAtUptoRow.holds Try.pinned (OpenSpec.upto fnExactFunctionAtSpec)

/-- 'laws.FnExactActOk', WHERE WHAT IT READS IS OF BULK AT MOST 1048576: true; the input reads as it did. -/
def fnExactActOkUptoRow : OpenClaim := { program := "ythjajgpejfoghab", sum := "2619d46f52de5342c6f880626f5bd0a3d9eb441b18f598b5dc0a9688fde4151d", func := "loop.example/g03312/laws.FnExactActOk", spec := "fnExactActOk", apart := false, narrowed := true }
def FnExactActOkUptoSaid : Prop := fnExactActOkUptoRow.holds Try.pinned (OpenSpec.upto fnExactActOkSpec)

end Rows
end Go.Proofs.Ythjajgpejfoghab
