/-
  No cell of these rows narrows 'for every input' (looked for: loops, veiled, ifaces, maps, wideKeys, modest, calm, conditions, laid).
  DERIVED. THE GIVEN ROWS OF THIS SEAT. 14 by the template 'for every input the law returns true; each argument reads behind the call as it read before'; 0 by the template 'total and deterministic' (their statements: YtfbnjemmmgobkaaTotals.lean).
  GIVEN WITH THE SEED: the statements are not yours to turn. If you find one false, say at which input.
  Laid BY PROGRAM, IN A SANDBOX (cutbox-rows.mjs): the forced cells as the released guide's own fill.sh prints them over the translation dfc5e1e33da838fd… (all of the seat's roots in one cut). By AI agents, Wed Nov 11 2026. No macro, syntax, notation, axiom, sorry.
-/
import Derived.Test.YtfbnjemmmgobkaaChecked
import GoSem.Claim
import GoSem.ClaimJoined
import GoSem.ClaimMapViews
import Derived.JoinedTies
import Derived.KernelRfl
namespace Go.Proofs.Ytfbnjemmmgobkaa
/- THE CELL 'sum', in the pinned program and in every row, IS THE sha256 OF THE DUMP (.gsa) THAT YtfbnjemmmgobkaaProg.lean LOADS. Nothing in Lean hashes anything: it is a label: what it is worth is what the hold of that sum in a sandbox is worth. -/
noncomputable def Try.pinned : Pinned := { name := "ytfbnjemmmgobkaa", sum := "dfc5e1e33da838fdd3410adde3c6f9cd64bfe6327fa703753848b5bbd6e81b8f", checked := Try.checked }
namespace Rows
def none {H : Type} : Left H := { results := [], args := [] }

/-- 'laws.FnExactServedBytes': WHATEVER THE INPUT: true; the input reads as it did. -/
def fnExactServedBytesSpec : ChangeSpec := { name := "fnExactServedBytes", fn := fun _ => fun
  | [d1, d2, d3] => { results := [.lit (.bool true)], args := [d1, d2, d3] }
  | _ => none }
def fnExactServedBytesRow : OpenClaim := { program := "ytfbnjemmmgobkaa", sum := "dfc5e1e33da838fdd3410adde3c6f9cd64bfe6327fa703753848b5bbd6e81b8f", func := "loop.example/g03312/laws.FnExactServedBytes", spec := "fnExactServedBytes", apart := false }
def FnExactServedBytesSaid : Prop := fnExactServedBytesRow.holds Try.pinned (OpenSpec.ofChange fnExactServedBytesSpec)

/-- ITS FALSE NEIGHBOUR: 'it returns false'. Refute it at one input. -/
def fnExactServedBytesWrong : ChangeSpec := { name := "fnExactServedBytes", fn := fun _ => fun
  | [d1, d2, d3] => { results := [.lit (.bool false)], args := [d1, d2, d3] }
  | _ => none }
def FnExactServedBytesWrongFalsely : Prop := fnExactServedBytesRow.holds Try.pinned (OpenSpec.ofChange fnExactServedBytesWrong)

/-- 'laws.FnExactTickFunctions': WHATEVER THE INPUT: true; the input reads as it did. -/
def fnExactTickFunctionsSpec : ChangeSpec := { name := "fnExactTickFunctions", fn := fun _ => fun
  | [d1, d2] => { results := [.lit (.bool true)], args := [d1, d2] }
  | _ => none }
def fnExactTickFunctionsRow : OpenClaim := { program := "ytfbnjemmmgobkaa", sum := "dfc5e1e33da838fdd3410adde3c6f9cd64bfe6327fa703753848b5bbd6e81b8f", func := "loop.example/g03312/laws.FnExactTickFunctions", spec := "fnExactTickFunctions", apart := false }
def FnExactTickFunctionsSaid : Prop := fnExactTickFunctionsRow.holds Try.pinned (OpenSpec.ofChange fnExactTickFunctionsSpec)

/-- ITS FALSE NEIGHBOUR: 'it returns false'. Refute it at one input. -/
def fnExactTickFunctionsWrong : ChangeSpec := { name := "fnExactTickFunctions", fn := fun _ => fun
  | [d1, d2] => { results := [.lit (.bool false)], args := [d1, d2] }
  | _ => none }
def FnExactTickFunctionsWrongFalsely : Prop := fnExactTickFunctionsRow.holds Try.pinned (OpenSpec.ofChange fnExactTickFunctionsWrong)

/-- 'laws.FnExactEffective': WHATEVER THE INPUT: true; the input reads as it did. -/
def fnExactEffectiveSpec : ChangeSpec := { name := "fnExactEffective", fn := fun _ => fun
  | [d] => { results := [.lit (.bool true)], args := [d] }
  | _ => none }
def fnExactEffectiveRow : OpenClaim := { program := "ytfbnjemmmgobkaa", sum := "dfc5e1e33da838fdd3410adde3c6f9cd64bfe6327fa703753848b5bbd6e81b8f", func := "loop.example/g03312/laws.FnExactEffective", spec := "fnExactEffective", unfollowed := true, recurses := true, apart := false }
def FnExactEffectiveSaid : Prop := fnExactEffectiveRow.holds Try.pinned (OpenSpec.ofChange fnExactEffectiveSpec)

/-- ITS FALSE NEIGHBOUR: 'it returns false'. Refute it at one input. -/
def fnExactEffectiveWrong : ChangeSpec := { name := "fnExactEffective", fn := fun _ => fun
  | [d] => { results := [.lit (.bool false)], args := [d] }
  | _ => none }
def FnExactEffectiveWrongFalsely : Prop := fnExactEffectiveRow.holds Try.pinned (OpenSpec.ofChange fnExactEffectiveWrong)

/-- 'laws.FnExactFlashOk': WHATEVER THE INPUT: true; the input reads as it did. -/
def fnExactFlashOkSpec : ChangeSpec := { name := "fnExactFlashOk", fn := fun _ => fun
  | [d] => { results := [.lit (.bool true)], args := [d] }
  | _ => none }
def fnExactFlashOkRow : OpenClaim := { program := "ytfbnjemmmgobkaa", sum := "dfc5e1e33da838fdd3410adde3c6f9cd64bfe6327fa703753848b5bbd6e81b8f", func := "loop.example/g03312/laws.FnExactFlashOk", spec := "fnExactFlashOk", unfollowed := true, recurses := true, apart := false }
def FnExactFlashOkSaid : Prop := fnExactFlashOkRow.holds Try.pinned (OpenSpec.ofChange fnExactFlashOkSpec)

/-- ITS FALSE NEIGHBOUR: 'it returns false'. Refute it at one input. -/
def fnExactFlashOkWrong : ChangeSpec := { name := "fnExactFlashOk", fn := fun _ => fun
  | [d] => { results := [.lit (.bool false)], args := [d] }
  | _ => none }
def FnExactFlashOkWrongFalsely : Prop := fnExactFlashOkRow.holds Try.pinned (OpenSpec.ofChange fnExactFlashOkWrong)

/-- 'laws.FnExactBootBank': WHATEVER THE INPUT: true; the input reads as it did. -/
def fnExactBootBankSpec : ChangeSpec := { name := "fnExactBootBank", fn := fun _ => fun
  | [d] => { results := [.lit (.bool true)], args := [d] }
  | _ => none }
def fnExactBootBankRow : OpenClaim := { program := "ytfbnjemmmgobkaa", sum := "dfc5e1e33da838fdd3410adde3c6f9cd64bfe6327fa703753848b5bbd6e81b8f", func := "loop.example/g03312/laws.FnExactBootBank", spec := "fnExactBootBank", unfollowed := true, recurses := true, apart := false }
def FnExactBootBankSaid : Prop := fnExactBootBankRow.holds Try.pinned (OpenSpec.ofChange fnExactBootBankSpec)

/-- ITS FALSE NEIGHBOUR: 'it returns false'. Refute it at one input. -/
def fnExactBootBankWrong : ChangeSpec := { name := "fnExactBootBank", fn := fun _ => fun
  | [d] => { results := [.lit (.bool false)], args := [d] }
  | _ => none }
def FnExactBootBankWrongFalsely : Prop := fnExactBootBankRow.holds Try.pinned (OpenSpec.ofChange fnExactBootBankWrong)

/-- 'laws.FnExactBootVersion': WHATEVER THE INPUT: true; the input reads as it did. -/
def fnExactBootVersionSpec : ChangeSpec := { name := "fnExactBootVersion", fn := fun _ => fun
  | [d] => { results := [.lit (.bool true)], args := [d] }
  | _ => none }
def fnExactBootVersionRow : OpenClaim := { program := "ytfbnjemmmgobkaa", sum := "dfc5e1e33da838fdd3410adde3c6f9cd64bfe6327fa703753848b5bbd6e81b8f", func := "loop.example/g03312/laws.FnExactBootVersion", spec := "fnExactBootVersion", unfollowed := true, recurses := true, apart := false }
def FnExactBootVersionSaid : Prop := fnExactBootVersionRow.holds Try.pinned (OpenSpec.ofChange fnExactBootVersionSpec)

/-- ITS FALSE NEIGHBOUR: 'it returns false'. Refute it at one input. -/
def fnExactBootVersionWrong : ChangeSpec := { name := "fnExactBootVersion", fn := fun _ => fun
  | [d] => { results := [.lit (.bool false)], args := [d] }
  | _ => none }
def FnExactBootVersionWrongFalsely : Prop := fnExactBootVersionRow.holds Try.pinned (OpenSpec.ofChange fnExactBootVersionWrong)

/-- 'laws.FnExactHasReset': WHATEVER THE INPUT: true; the input reads as it did. -/
def fnExactHasResetSpec : ChangeSpec := { name := "fnExactHasReset", fn := fun _ => fun
  | [d] => { results := [.lit (.bool true)], args := [d] }
  | _ => none }
def fnExactHasResetRow : OpenClaim := { program := "ytfbnjemmmgobkaa", sum := "dfc5e1e33da838fdd3410adde3c6f9cd64bfe6327fa703753848b5bbd6e81b8f", func := "loop.example/g03312/laws.FnExactHasReset", spec := "fnExactHasReset", unfollowed := true, recurses := true, apart := false }
def FnExactHasResetSaid : Prop := fnExactHasResetRow.holds Try.pinned (OpenSpec.ofChange fnExactHasResetSpec)

/-- ITS FALSE NEIGHBOUR: 'it returns false'. Refute it at one input. -/
def fnExactHasResetWrong : ChangeSpec := { name := "fnExactHasReset", fn := fun _ => fun
  | [d] => { results := [.lit (.bool false)], args := [d] }
  | _ => none }
def FnExactHasResetWrongFalsely : Prop := fnExactHasResetRow.holds Try.pinned (OpenSpec.ofChange fnExactHasResetWrong)

/-- 'laws.FnExactActOk': WHATEVER THE INPUT: true; the input reads as it did. -/
def fnExactActOkSpec : ChangeSpec := { name := "fnExactActOk", fn := fun _ => fun
  | [d] => { results := [.lit (.bool true)], args := [d] }
  | _ => none }
def fnExactActOkRow : OpenClaim := { program := "ytfbnjemmmgobkaa", sum := "dfc5e1e33da838fdd3410adde3c6f9cd64bfe6327fa703753848b5bbd6e81b8f", func := "loop.example/g03312/laws.FnExactActOk", spec := "fnExactActOk", apart := false }
def FnExactActOkSaid : Prop := fnExactActOkRow.holds Try.pinned (OpenSpec.ofChange fnExactActOkSpec)

/-- ITS FALSE NEIGHBOUR: 'it returns false'. Refute it at one input. -/
def fnExactActOkWrong : ChangeSpec := { name := "fnExactActOk", fn := fun _ => fun
  | [d] => { results := [.lit (.bool false)], args := [d] }
  | _ => none }
def FnExactActOkWrongFalsely : Prop := fnExactActOkRow.holds Try.pinned (OpenSpec.ofChange fnExactActOkWrong)

/-- 'laws.FnExactPiecesOfDescs': WHATEVER THE INPUT: true; the input reads as it did. -/
def fnExactPiecesOfDescsSpec : ChangeSpec := { name := "fnExactPiecesOfDescs", fn := fun _ => fun
  | [d] => { results := [.lit (.bool true)], args := [d] }
  | _ => none }
def fnExactPiecesOfDescsRow : OpenClaim := { program := "ytfbnjemmmgobkaa", sum := "dfc5e1e33da838fdd3410adde3c6f9cd64bfe6327fa703753848b5bbd6e81b8f", func := "loop.example/g03312/laws.FnExactPiecesOfDescs", spec := "fnExactPiecesOfDescs", unfollowed := true, recurses := true, apart := false }
def FnExactPiecesOfDescsSaid : Prop := fnExactPiecesOfDescsRow.holds Try.pinned (OpenSpec.ofChange fnExactPiecesOfDescsSpec)

/-- ITS FALSE NEIGHBOUR: 'it returns false'. Refute it at one input. -/
def fnExactPiecesOfDescsWrong : ChangeSpec := { name := "fnExactPiecesOfDescs", fn := fun _ => fun
  | [d] => { results := [.lit (.bool false)], args := [d] }
  | _ => none }
def FnExactPiecesOfDescsWrongFalsely : Prop := fnExactPiecesOfDescsRow.holds Try.pinned (OpenSpec.ofChange fnExactPiecesOfDescsWrong)

/-- 'laws.FnExactDescribePacket': WHATEVER THE INPUT: true; the input reads as it did. -/
def fnExactDescribePacketSpec : ChangeSpec := { name := "fnExactDescribePacket", fn := fun _ => fun
  | [d1, d2, d3] => { results := [.lit (.bool true)], args := [d1, d2, d3] }
  | _ => none }
def fnExactDescribePacketRow : OpenClaim := { program := "ytfbnjemmmgobkaa", sum := "dfc5e1e33da838fdd3410adde3c6f9cd64bfe6327fa703753848b5bbd6e81b8f", func := "loop.example/g03312/laws.FnExactDescribePacket", spec := "fnExactDescribePacket", unfollowed := true, recurses := true, apart := false }
def FnExactDescribePacketSaid : Prop := fnExactDescribePacketRow.holds Try.pinned (OpenSpec.ofChange fnExactDescribePacketSpec)

/-- ITS FALSE NEIGHBOUR: 'it returns false'. Refute it at one input. -/
def fnExactDescribePacketWrong : ChangeSpec := { name := "fnExactDescribePacket", fn := fun _ => fun
  | [d1, d2, d3] => { results := [.lit (.bool false)], args := [d1, d2, d3] }
  | _ => none }
def FnExactDescribePacketWrongFalsely : Prop := fnExactDescribePacketRow.holds Try.pinned (OpenSpec.ofChange fnExactDescribePacketWrong)

/-- 'laws.FnExactTableOk': WHATEVER THE INPUT: true; the input reads as it did. -/
def fnExactTableOkSpec : ChangeSpec := { name := "fnExactTableOk", fn := fun _ => fun
  | [d] => { results := [.lit (.bool true)], args := [d] }
  | _ => none }
def fnExactTableOkRow : OpenClaim := { program := "ytfbnjemmmgobkaa", sum := "dfc5e1e33da838fdd3410adde3c6f9cd64bfe6327fa703753848b5bbd6e81b8f", func := "loop.example/g03312/laws.FnExactTableOk", spec := "fnExactTableOk", unfollowed := true, recurses := true, apart := false }
def FnExactTableOkSaid : Prop := fnExactTableOkRow.holds Try.pinned (OpenSpec.ofChange fnExactTableOkSpec)

/-- ITS FALSE NEIGHBOUR: 'it returns false'. Refute it at one input. -/
def fnExactTableOkWrong : ChangeSpec := { name := "fnExactTableOk", fn := fun _ => fun
  | [d] => { results := [.lit (.bool false)], args := [d] }
  | _ => none }
def FnExactTableOkWrongFalsely : Prop := fnExactTableOkRow.holds Try.pinned (OpenSpec.ofChange fnExactTableOkWrong)

/-- 'laws.FnExactFindFlow': WHATEVER THE INPUT: true; the input reads as it did. -/
def fnExactFindFlowSpec : ChangeSpec := { name := "fnExactFindFlow", fn := fun _ => fun
  | [d1, d2] => { results := [.lit (.bool true)], args := [d1, d2] }
  | _ => none }
def fnExactFindFlowRow : OpenClaim := { program := "ytfbnjemmmgobkaa", sum := "dfc5e1e33da838fdd3410adde3c6f9cd64bfe6327fa703753848b5bbd6e81b8f", func := "loop.example/g03312/laws.FnExactFindFlow", spec := "fnExactFindFlow", unfollowed := true, recurses := true, apart := false }
def FnExactFindFlowSaid : Prop := fnExactFindFlowRow.holds Try.pinned (OpenSpec.ofChange fnExactFindFlowSpec)

/-- ITS FALSE NEIGHBOUR: 'it returns false'. Refute it at one input. -/
def fnExactFindFlowWrong : ChangeSpec := { name := "fnExactFindFlow", fn := fun _ => fun
  | [d1, d2] => { results := [.lit (.bool false)], args := [d1, d2] }
  | _ => none }
def FnExactFindFlowWrongFalsely : Prop := fnExactFindFlowRow.holds Try.pinned (OpenSpec.ofChange fnExactFindFlowWrong)

/-- 'laws.FnExactPauseOk': WHATEVER THE INPUT: true; the input reads as it did. -/
def fnExactPauseOkSpec : ChangeSpec := { name := "fnExactPauseOk", fn := fun _ => fun
  | [d] => { results := [.lit (.bool true)], args := [d] }
  | _ => none }
def fnExactPauseOkRow : OpenClaim := { program := "ytfbnjemmmgobkaa", sum := "dfc5e1e33da838fdd3410adde3c6f9cd64bfe6327fa703753848b5bbd6e81b8f", func := "loop.example/g03312/laws.FnExactPauseOk", spec := "fnExactPauseOk", unfollowed := true, recurses := true, apart := false }
def FnExactPauseOkSaid : Prop := fnExactPauseOkRow.holds Try.pinned (OpenSpec.ofChange fnExactPauseOkSpec)

/-- ITS FALSE NEIGHBOUR: 'it returns false'. Refute it at one input. -/
def fnExactPauseOkWrong : ChangeSpec := { name := "fnExactPauseOk", fn := fun _ => fun
  | [d] => { results := [.lit (.bool false)], args := [d] }
  | _ => none }
def FnExactPauseOkWrongFalsely : Prop := fnExactPauseOkRow.holds Try.pinned (OpenSpec.ofChange fnExactPauseOkWrong)

/-- 'laws.FnExactMailboxOk': WHATEVER THE INPUT: true; the input reads as it did. -/
def fnExactMailboxOkSpec : ChangeSpec := { name := "fnExactMailboxOk", fn := fun _ => fun
  | [d] => { results := [.lit (.bool true)], args := [d] }
  | _ => none }
def fnExactMailboxOkRow : OpenClaim := { program := "ytfbnjemmmgobkaa", sum := "dfc5e1e33da838fdd3410adde3c6f9cd64bfe6327fa703753848b5bbd6e81b8f", func := "loop.example/g03312/laws.FnExactMailboxOk", spec := "fnExactMailboxOk", unfollowed := true, recurses := true, apart := false }
def FnExactMailboxOkSaid : Prop := fnExactMailboxOkRow.holds Try.pinned (OpenSpec.ofChange fnExactMailboxOkSpec)

/-- ITS FALSE NEIGHBOUR: 'it returns false'. Refute it at one input. -/
def fnExactMailboxOkWrong : ChangeSpec := { name := "fnExactMailboxOk", fn := fun _ => fun
  | [d] => { results := [.lit (.bool false)], args := [d] }
  | _ => none }
def FnExactMailboxOkWrongFalsely : Prop := fnExactMailboxOkRow.holds Try.pinned (OpenSpec.ofChange fnExactMailboxOkWrong)

/- THE SECOND FORM. 'bulk': how many values and letters a reading holds, each counted each time it is reached (what is shared counts as often as it is met; a slice's spare places count too). A statement '..UptoSaid' is the law's where the arguments, and the package variables that the reading takes, are together of bulk at most 1048576: NARROWER than '..Said'. Prove '..Said' where nothing that the law and all that it calls make is longer than what came in: it says more and counts as full. Else prove '..UptoSaid'. A law counts once. -/
mutual
def uptoBulk {H : Type} : DataW H → Nat
  | .lit (.string bytes) => bytes.length + 1
  | .lit _ => 1
  | .nil => 1
  | .ptr d => uptoBulk d + 1
  | .slice elems spare => uptoBulkAll elems + uptoBulkAll spare + 1
  | .agg parts => uptoBulkAll parts + 1
  | .iface _ d => uptoBulk d + 1
  | .map entries => uptoBulkEntries entries + 1
  | .held _ => 1
def uptoBulkAll {H : Type} : List (DataW H) → Nat
  | [] => 0
  | d :: r => uptoBulk d + uptoBulkAll r
def uptoBulkEntries {H : Type} : List (Lit × DataW H) → Nat
  | [] => 0
  | x :: r => uptoBulkEntry x + uptoBulkEntries r
def uptoBulkEntry {H : Type} : Lit × DataW H → Nat
  | (.string bytes, d) => bytes.length + uptoBulk d + 1
  | (_, d) => uptoBulk d + 1
 end
def uptoSmall : (H : Type) → List (DataW H) → Bool := fun _ ds => decide (uptoBulkAll ds ≤ 1048576)
def OpenSpec.upto (s : _root_.Go.ChangeSpec) : _root_.Go.OpenSpec := { _root_.Go.OpenSpec.ofChange s with cond := some uptoSmall }

/-- 'laws.FnExactServedBytes', WHERE WHAT IT READS IS OF BULK AT MOST 1048576: true; the input reads as it did. -/
def fnExactServedBytesUptoRow : OpenClaim := { program := "ytfbnjemmmgobkaa", sum := "dfc5e1e33da838fdd3410adde3c6f9cd64bfe6327fa703753848b5bbd6e81b8f", func := "loop.example/g03312/laws.FnExactServedBytes", spec := "fnExactServedBytes", apart := false, narrowed := true }
def FnExactServedBytesUptoSaid : Prop := fnExactServedBytesUptoRow.holds Try.pinned (OpenSpec.upto fnExactServedBytesSpec)

/-- 'laws.FnExactTickFunctions', WHERE WHAT IT READS IS OF BULK AT MOST 1048576: true; the input reads as it did. -/
def fnExactTickFunctionsUptoRow : OpenClaim := { program := "ytfbnjemmmgobkaa", sum := "dfc5e1e33da838fdd3410adde3c6f9cd64bfe6327fa703753848b5bbd6e81b8f", func := "loop.example/g03312/laws.FnExactTickFunctions", spec := "fnExactTickFunctions", apart := false, narrowed := true }
def FnExactTickFunctionsUptoSaid : Prop := fnExactTickFunctionsUptoRow.holds Try.pinned (OpenSpec.upto fnExactTickFunctionsSpec)

/-- 'laws.FnExactEffective', WHERE WHAT IT READS IS OF BULK AT MOST 1048576: true; the input reads as it did. -/
def fnExactEffectiveUptoRow : OpenClaim := { program := "ytfbnjemmmgobkaa", sum := "dfc5e1e33da838fdd3410adde3c6f9cd64bfe6327fa703753848b5bbd6e81b8f", func := "loop.example/g03312/laws.FnExactEffective", spec := "fnExactEffective", unfollowed := true, recurses := true, apart := false, narrowed := true }
def FnExactEffectiveUptoSaid : Prop := fnExactEffectiveUptoRow.holds Try.pinned (OpenSpec.upto fnExactEffectiveSpec)

/-- 'laws.FnExactFlashOk', WHERE WHAT IT READS IS OF BULK AT MOST 1048576: true; the input reads as it did. -/
def fnExactFlashOkUptoRow : OpenClaim := { program := "ytfbnjemmmgobkaa", sum := "dfc5e1e33da838fdd3410adde3c6f9cd64bfe6327fa703753848b5bbd6e81b8f", func := "loop.example/g03312/laws.FnExactFlashOk", spec := "fnExactFlashOk", unfollowed := true, recurses := true, apart := false, narrowed := true }
def FnExactFlashOkUptoSaid : Prop := fnExactFlashOkUptoRow.holds Try.pinned (OpenSpec.upto fnExactFlashOkSpec)

/-- 'laws.FnExactBootBank', WHERE WHAT IT READS IS OF BULK AT MOST 1048576: true; the input reads as it did. -/
def fnExactBootBankUptoRow : OpenClaim := { program := "ytfbnjemmmgobkaa", sum := "dfc5e1e33da838fdd3410adde3c6f9cd64bfe6327fa703753848b5bbd6e81b8f", func := "loop.example/g03312/laws.FnExactBootBank", spec := "fnExactBootBank", unfollowed := true, recurses := true, apart := false, narrowed := true }
def FnExactBootBankUptoSaid : Prop := fnExactBootBankUptoRow.holds Try.pinned (OpenSpec.upto fnExactBootBankSpec)

/-- 'laws.FnExactBootVersion', WHERE WHAT IT READS IS OF BULK AT MOST 1048576: true; the input reads as it did. -/
def fnExactBootVersionUptoRow : OpenClaim := { program := "ytfbnjemmmgobkaa", sum := "dfc5e1e33da838fdd3410adde3c6f9cd64bfe6327fa703753848b5bbd6e81b8f", func := "loop.example/g03312/laws.FnExactBootVersion", spec := "fnExactBootVersion", unfollowed := true, recurses := true, apart := false, narrowed := true }
def FnExactBootVersionUptoSaid : Prop := fnExactBootVersionUptoRow.holds Try.pinned (OpenSpec.upto fnExactBootVersionSpec)

/-- 'laws.FnExactHasReset', WHERE WHAT IT READS IS OF BULK AT MOST 1048576: true; the input reads as it did. -/
def fnExactHasResetUptoRow : OpenClaim := { program := "ytfbnjemmmgobkaa", sum := "dfc5e1e33da838fdd3410adde3c6f9cd64bfe6327fa703753848b5bbd6e81b8f", func := "loop.example/g03312/laws.FnExactHasReset", spec := "fnExactHasReset", unfollowed := true, recurses := true, apart := false, narrowed := true }
def FnExactHasResetUptoSaid : Prop := fnExactHasResetUptoRow.holds Try.pinned (OpenSpec.upto fnExactHasResetSpec)

/-- 'laws.FnExactActOk', WHERE WHAT IT READS IS OF BULK AT MOST 1048576: true; the input reads as it did. -/
def fnExactActOkUptoRow : OpenClaim := { program := "ytfbnjemmmgobkaa", sum := "dfc5e1e33da838fdd3410adde3c6f9cd64bfe6327fa703753848b5bbd6e81b8f", func := "loop.example/g03312/laws.FnExactActOk", spec := "fnExactActOk", apart := false, narrowed := true }
def FnExactActOkUptoSaid : Prop := fnExactActOkUptoRow.holds Try.pinned (OpenSpec.upto fnExactActOkSpec)

/-- 'laws.FnExactPiecesOfDescs', WHERE WHAT IT READS IS OF BULK AT MOST 1048576: true; the input reads as it did. -/
def fnExactPiecesOfDescsUptoRow : OpenClaim := { program := "ytfbnjemmmgobkaa", sum := "dfc5e1e33da838fdd3410adde3c6f9cd64bfe6327fa703753848b5bbd6e81b8f", func := "loop.example/g03312/laws.FnExactPiecesOfDescs", spec := "fnExactPiecesOfDescs", unfollowed := true, recurses := true, apart := false, narrowed := true }
def FnExactPiecesOfDescsUptoSaid : Prop := fnExactPiecesOfDescsUptoRow.holds Try.pinned (OpenSpec.upto fnExactPiecesOfDescsSpec)

/-- 'laws.FnExactDescribePacket', WHERE WHAT IT READS IS OF BULK AT MOST 1048576: true; the input reads as it did. -/
def fnExactDescribePacketUptoRow : OpenClaim := { program := "ytfbnjemmmgobkaa", sum := "dfc5e1e33da838fdd3410adde3c6f9cd64bfe6327fa703753848b5bbd6e81b8f", func := "loop.example/g03312/laws.FnExactDescribePacket", spec := "fnExactDescribePacket", unfollowed := true, recurses := true, apart := false, narrowed := true }
def FnExactDescribePacketUptoSaid : Prop := fnExactDescribePacketUptoRow.holds Try.pinned (OpenSpec.upto fnExactDescribePacketSpec)

/-- 'laws.FnExactTableOk', WHERE WHAT IT READS IS OF BULK AT MOST 1048576: true; the input reads as it did. -/
def fnExactTableOkUptoRow : OpenClaim := { program := "ytfbnjemmmgobkaa", sum := "dfc5e1e33da838fdd3410adde3c6f9cd64bfe6327fa703753848b5bbd6e81b8f", func := "loop.example/g03312/laws.FnExactTableOk", spec := "fnExactTableOk", unfollowed := true, recurses := true, apart := false, narrowed := true }
def FnExactTableOkUptoSaid : Prop := fnExactTableOkUptoRow.holds Try.pinned (OpenSpec.upto fnExactTableOkSpec)

/-- 'laws.FnExactFindFlow', WHERE WHAT IT READS IS OF BULK AT MOST 1048576: true; the input reads as it did. -/
def fnExactFindFlowUptoRow : OpenClaim := { program := "ytfbnjemmmgobkaa", sum := "dfc5e1e33da838fdd3410adde3c6f9cd64bfe6327fa703753848b5bbd6e81b8f", func := "loop.example/g03312/laws.FnExactFindFlow", spec := "fnExactFindFlow", unfollowed := true, recurses := true, apart := false, narrowed := true }
def FnExactFindFlowUptoSaid : Prop := fnExactFindFlowUptoRow.holds Try.pinned (OpenSpec.upto fnExactFindFlowSpec)

/-- 'laws.FnExactPauseOk', WHERE WHAT IT READS IS OF BULK AT MOST 1048576: true; the input reads as it did. -/
def fnExactPauseOkUptoRow : OpenClaim := { program := "ytfbnjemmmgobkaa", sum := "dfc5e1e33da838fdd3410adde3c6f9cd64bfe6327fa703753848b5bbd6e81b8f", func := "loop.example/g03312/laws.FnExactPauseOk", spec := "fnExactPauseOk", unfollowed := true, recurses := true, apart := false, narrowed := true }
def FnExactPauseOkUptoSaid : Prop := fnExactPauseOkUptoRow.holds Try.pinned (OpenSpec.upto fnExactPauseOkSpec)

/-- 'laws.FnExactMailboxOk', WHERE WHAT IT READS IS OF BULK AT MOST 1048576: true; the input reads as it did. -/
def fnExactMailboxOkUptoRow : OpenClaim := { program := "ytfbnjemmmgobkaa", sum := "dfc5e1e33da838fdd3410adde3c6f9cd64bfe6327fa703753848b5bbd6e81b8f", func := "loop.example/g03312/laws.FnExactMailboxOk", spec := "fnExactMailboxOk", unfollowed := true, recurses := true, apart := false, narrowed := true }
def FnExactMailboxOkUptoSaid : Prop := fnExactMailboxOkUptoRow.holds Try.pinned (OpenSpec.upto fnExactMailboxOkSpec)

end Rows
end Go.Proofs.Ytfbnjemmmgobkaa
