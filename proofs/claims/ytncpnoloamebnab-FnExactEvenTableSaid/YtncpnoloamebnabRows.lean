/-
  No cell of these rows narrows 'for every input' (looked for: loops, veiled, ifaces, maps, wideKeys, modest, calm, conditions, laid).
  DERIVED. THE GIVEN ROWS OF THIS SEAT. 13 by the template 'for every input the law returns true; each argument reads behind the call as it read before'; 0 by the template 'total and deterministic' (their statements: YtncpnoloamebnabTotals.lean).
  GIVEN WITH THE SEED: the statements are not yours to turn. If you find one false, say at which input.
  Laid BY PROGRAM, IN A SANDBOX (cutbox-rows.mjs): the forced cells as the released guide's own fill.sh prints them over the translation ad83abd333077518… (all of the seat's roots in one cut). By AI agents, Wed Nov 11 2026. No macro, syntax, notation, axiom, sorry.
-/
import Derived.Test.YtncpnoloamebnabChecked
import GoSem.Claim
import GoSem.ClaimJoined
import GoSem.ClaimMapViews
import Derived.JoinedTies
import Derived.KernelRfl
namespace Go.Proofs.Ytncpnoloamebnab
/- THE CELL 'sum', in the pinned program and in every row, IS THE sha256 OF THE DUMP (.gsa) THAT YtncpnoloamebnabProg.lean LOADS. Nothing in Lean hashes anything: it is a label: what it is worth is what the hold of that sum in a sandbox is worth. -/
noncomputable def Try.pinned : Pinned := { name := "ytncpnoloamebnab", sum := "ad83abd333077518565744ecb88de67f57659dfa06b3b07cfaac915eb988a40c", checked := Try.checked }
namespace Rows
def none {H : Type} : Left H := { results := [], args := [] }

/-- 'laws.FnExactRingOk': WHATEVER THE INPUT: true; the input reads as it did. -/
def fnExactRingOkSpec : ChangeSpec := { name := "fnExactRingOk", fn := fun _ => fun
  | [d] => { results := [.lit (.bool true)], args := [d] }
  | _ => none }
def fnExactRingOkRow : OpenClaim := { program := "ytncpnoloamebnab", sum := "ad83abd333077518565744ecb88de67f57659dfa06b3b07cfaac915eb988a40c", func := "loop.example/g03312/laws.FnExactRingOk", spec := "fnExactRingOk", apart := false }
def FnExactRingOkSaid : Prop := fnExactRingOkRow.holds Try.pinned (OpenSpec.ofChange fnExactRingOkSpec)

/-- ITS FALSE NEIGHBOUR: 'it returns false'. Refute it at one input. -/
def fnExactRingOkWrong : ChangeSpec := { name := "fnExactRingOk", fn := fun _ => fun
  | [d] => { results := [.lit (.bool false)], args := [d] }
  | _ => none }
def FnExactRingOkWrongFalsely : Prop := fnExactRingOkRow.holds Try.pinned (OpenSpec.ofChange fnExactRingOkWrong)

/-- 'laws.FnExactRingUsed': WHATEVER THE INPUT: true; the input reads as it did. -/
def fnExactRingUsedSpec : ChangeSpec := { name := "fnExactRingUsed", fn := fun _ => fun
  | [d] => { results := [.lit (.bool true)], args := [d] }
  | _ => none }
def fnExactRingUsedRow : OpenClaim := { program := "ytncpnoloamebnab", sum := "ad83abd333077518565744ecb88de67f57659dfa06b3b07cfaac915eb988a40c", func := "loop.example/g03312/laws.FnExactRingUsed", spec := "fnExactRingUsed", apart := false }
def FnExactRingUsedSaid : Prop := fnExactRingUsedRow.holds Try.pinned (OpenSpec.ofChange fnExactRingUsedSpec)

/-- ITS FALSE NEIGHBOUR: 'it returns false'. Refute it at one input. -/
def fnExactRingUsedWrong : ChangeSpec := { name := "fnExactRingUsed", fn := fun _ => fun
  | [d] => { results := [.lit (.bool false)], args := [d] }
  | _ => none }
def FnExactRingUsedWrongFalsely : Prop := fnExactRingUsedRow.holds Try.pinned (OpenSpec.ofChange fnExactRingUsedWrong)

/-- 'laws.FnExactRingFree': WHATEVER THE INPUT: true; the input reads as it did. -/
def fnExactRingFreeSpec : ChangeSpec := { name := "fnExactRingFree", fn := fun _ => fun
  | [d] => { results := [.lit (.bool true)], args := [d] }
  | _ => none }
def fnExactRingFreeRow : OpenClaim := { program := "ytncpnoloamebnab", sum := "ad83abd333077518565744ecb88de67f57659dfa06b3b07cfaac915eb988a40c", func := "loop.example/g03312/laws.FnExactRingFree", spec := "fnExactRingFree", apart := false }
def FnExactRingFreeSaid : Prop := fnExactRingFreeRow.holds Try.pinned (OpenSpec.ofChange fnExactRingFreeSpec)

/-- ITS FALSE NEIGHBOUR: 'it returns false'. Refute it at one input. -/
def fnExactRingFreeWrong : ChangeSpec := { name := "fnExactRingFree", fn := fun _ => fun
  | [d] => { results := [.lit (.bool false)], args := [d] }
  | _ => none }
def FnExactRingFreeWrongFalsely : Prop := fnExactRingFreeRow.holds Try.pinned (OpenSpec.ofChange fnExactRingFreeWrong)

/-- 'laws.FnExactSlotAddress': WHATEVER THE INPUT: true; the input reads as it did. -/
def fnExactSlotAddressSpec : ChangeSpec := { name := "fnExactSlotAddress", fn := fun _ => fun
  | [d1, d2] => { results := [.lit (.bool true)], args := [d1, d2] }
  | _ => none }
def fnExactSlotAddressRow : OpenClaim := { program := "ytncpnoloamebnab", sum := "ad83abd333077518565744ecb88de67f57659dfa06b3b07cfaac915eb988a40c", func := "loop.example/g03312/laws.FnExactSlotAddress", spec := "fnExactSlotAddress", apart := false }
def FnExactSlotAddressSaid : Prop := fnExactSlotAddressRow.holds Try.pinned (OpenSpec.ofChange fnExactSlotAddressSpec)

/-- ITS FALSE NEIGHBOUR: 'it returns false'. Refute it at one input. -/
def fnExactSlotAddressWrong : ChangeSpec := { name := "fnExactSlotAddress", fn := fun _ => fun
  | [d1, d2] => { results := [.lit (.bool false)], args := [d1, d2] }
  | _ => none }
def FnExactSlotAddressWrongFalsely : Prop := fnExactSlotAddressRow.holds Try.pinned (OpenSpec.ofChange fnExactSlotAddressWrong)

/-- 'laws.FnExactQueueOk': WHATEVER THE INPUT: true; the input reads as it did. -/
def fnExactQueueOkSpec : ChangeSpec := { name := "fnExactQueueOk", fn := fun _ => fun
  | [d] => { results := [.lit (.bool true)], args := [d] }
  | _ => none }
def fnExactQueueOkRow : OpenClaim := { program := "ytncpnoloamebnab", sum := "ad83abd333077518565744ecb88de67f57659dfa06b3b07cfaac915eb988a40c", func := "loop.example/g03312/laws.FnExactQueueOk", spec := "fnExactQueueOk", apart := false }
def FnExactQueueOkSaid : Prop := fnExactQueueOkRow.holds Try.pinned (OpenSpec.ofChange fnExactQueueOkSpec)

/-- ITS FALSE NEIGHBOUR: 'it returns false'. Refute it at one input. -/
def fnExactQueueOkWrong : ChangeSpec := { name := "fnExactQueueOk", fn := fun _ => fun
  | [d] => { results := [.lit (.bool false)], args := [d] }
  | _ => none }
def FnExactQueueOkWrongFalsely : Prop := fnExactQueueOkRow.holds Try.pinned (OpenSpec.ofChange fnExactQueueOkWrong)

/-- 'laws.FnExactRuleOk': WHATEVER THE INPUT: true; the input reads as it did. -/
def fnExactRuleOkSpec : ChangeSpec := { name := "fnExactRuleOk", fn := fun _ => fun
  | [d] => { results := [.lit (.bool true)], args := [d] }
  | _ => none }
def fnExactRuleOkRow : OpenClaim := { program := "ytncpnoloamebnab", sum := "ad83abd333077518565744ecb88de67f57659dfa06b3b07cfaac915eb988a40c", func := "loop.example/g03312/laws.FnExactRuleOk", spec := "fnExactRuleOk", apart := false }
def FnExactRuleOkSaid : Prop := fnExactRuleOkRow.holds Try.pinned (OpenSpec.ofChange fnExactRuleOkSpec)

/-- ITS FALSE NEIGHBOUR: 'it returns false'. Refute it at one input. -/
def fnExactRuleOkWrong : ChangeSpec := { name := "fnExactRuleOk", fn := fun _ => fun
  | [d] => { results := [.lit (.bool false)], args := [d] }
  | _ => none }
def FnExactRuleOkWrongFalsely : Prop := fnExactRuleOkRow.holds Try.pinned (OpenSpec.ofChange fnExactRuleOkWrong)

/-- 'laws.FnExactRuleCovers': WHATEVER THE INPUT: true; the input reads as it did. -/
def fnExactRuleCoversSpec : ChangeSpec := { name := "fnExactRuleCovers", fn := fun _ => fun
  | [d1, d2] => { results := [.lit (.bool true)], args := [d1, d2] }
  | _ => none }
def fnExactRuleCoversRow : OpenClaim := { program := "ytncpnoloamebnab", sum := "ad83abd333077518565744ecb88de67f57659dfa06b3b07cfaac915eb988a40c", func := "loop.example/g03312/laws.FnExactRuleCovers", spec := "fnExactRuleCovers", apart := false }
def FnExactRuleCoversSaid : Prop := fnExactRuleCoversRow.holds Try.pinned (OpenSpec.ofChange fnExactRuleCoversSpec)

/-- ITS FALSE NEIGHBOUR: 'it returns false'. Refute it at one input. -/
def fnExactRuleCoversWrong : ChangeSpec := { name := "fnExactRuleCovers", fn := fun _ => fun
  | [d1, d2] => { results := [.lit (.bool false)], args := [d1, d2] }
  | _ => none }
def FnExactRuleCoversWrongFalsely : Prop := fnExactRuleCoversRow.holds Try.pinned (OpenSpec.ofChange fnExactRuleCoversWrong)

/-- 'laws.FnExactEvenTable': WHATEVER THE INPUT: true; the input reads as it did. -/
def fnExactEvenTableSpec : ChangeSpec := { name := "fnExactEvenTable", fn := fun _ => fun
  | [d1, d2] => { results := [.lit (.bool true)], args := [d1, d2] }
  | _ => none }
def fnExactEvenTableRow : OpenClaim := { program := "ytncpnoloamebnab", sum := "ad83abd333077518565744ecb88de67f57659dfa06b3b07cfaac915eb988a40c", func := "loop.example/g03312/laws.FnExactEvenTable", spec := "fnExactEvenTable", apart := false }
def FnExactEvenTableSaid : Prop := fnExactEvenTableRow.holds Try.pinned (OpenSpec.ofChange fnExactEvenTableSpec)

/-- ITS FALSE NEIGHBOUR: 'it returns false'. Refute it at one input. -/
def fnExactEvenTableWrong : ChangeSpec := { name := "fnExactEvenTable", fn := fun _ => fun
  | [d1, d2] => { results := [.lit (.bool false)], args := [d1, d2] }
  | _ => none }
def FnExactEvenTableWrongFalsely : Prop := fnExactEvenTableRow.holds Try.pinned (OpenSpec.ofChange fnExactEvenTableWrong)

/-- 'laws.FnExactNewTable': WHATEVER THE INPUT: true; the input reads as it did. -/
def fnExactNewTableSpec : ChangeSpec := { name := "fnExactNewTable", fn := fun _ => fun
  | [] => { results := [.lit (.bool true)], args := [] }
  | _ => none }
def fnExactNewTableRow : OpenClaim := { program := "ytncpnoloamebnab", sum := "ad83abd333077518565744ecb88de67f57659dfa06b3b07cfaac915eb988a40c", func := "loop.example/g03312/laws.FnExactNewTable", spec := "fnExactNewTable", apart := false }
def FnExactNewTableSaid : Prop := fnExactNewTableRow.holds Try.pinned (OpenSpec.ofChange fnExactNewTableSpec)

/-- ITS FALSE NEIGHBOUR: 'it returns false'. Refute it at one input. -/
def fnExactNewTableWrong : ChangeSpec := { name := "fnExactNewTable", fn := fun _ => fun
  | [] => { results := [.lit (.bool false)], args := [] }
  | _ => none }
def FnExactNewTableWrongFalsely : Prop := fnExactNewTableRow.holds Try.pinned (OpenSpec.ofChange fnExactNewTableWrong)

/-- 'laws.FnExactCutPieces': WHATEVER THE INPUT: true; the input reads as it did. -/
def fnExactCutPiecesSpec : ChangeSpec := { name := "fnExactCutPieces", fn := fun _ => fun
  | [d1, d2, d3] => { results := [.lit (.bool true)], args := [d1, d2, d3] }
  | _ => none }
def fnExactCutPiecesRow : OpenClaim := { program := "ytncpnoloamebnab", sum := "ad83abd333077518565744ecb88de67f57659dfa06b3b07cfaac915eb988a40c", func := "loop.example/g03312/laws.FnExactCutPieces", spec := "fnExactCutPieces", apart := false }
def FnExactCutPiecesSaid : Prop := fnExactCutPiecesRow.holds Try.pinned (OpenSpec.ofChange fnExactCutPiecesSpec)

/-- ITS FALSE NEIGHBOUR: 'it returns false'. Refute it at one input. -/
def fnExactCutPiecesWrong : ChangeSpec := { name := "fnExactCutPieces", fn := fun _ => fun
  | [d1, d2, d3] => { results := [.lit (.bool false)], args := [d1, d2, d3] }
  | _ => none }
def FnExactCutPiecesWrongFalsely : Prop := fnExactCutPiecesRow.holds Try.pinned (OpenSpec.ofChange fnExactCutPiecesWrong)

/-- 'laws.FnExactNewMemory': WHATEVER THE INPUT: true; the input reads as it did. -/
def fnExactNewMemorySpec : ChangeSpec := { name := "fnExactNewMemory", fn := fun _ => fun
  | [d] => { results := [.lit (.bool true)], args := [d] }
  | _ => none }
def fnExactNewMemoryRow : OpenClaim := { program := "ytncpnoloamebnab", sum := "ad83abd333077518565744ecb88de67f57659dfa06b3b07cfaac915eb988a40c", func := "loop.example/g03312/laws.FnExactNewMemory", spec := "fnExactNewMemory", inPlace := ["internal/abi.NoEscape", "internal/bytealg.MakeNoZero"], apart := false }
def FnExactNewMemorySaid : Prop := fnExactNewMemoryRow.holds Try.pinned (OpenSpec.ofChange fnExactNewMemorySpec)

/-- ITS FALSE NEIGHBOUR: 'it returns false'. Refute it at one input. -/
def fnExactNewMemoryWrong : ChangeSpec := { name := "fnExactNewMemory", fn := fun _ => fun
  | [d] => { results := [.lit (.bool false)], args := [d] }
  | _ => none }
def FnExactNewMemoryWrongFalsely : Prop := fnExactNewMemoryRow.holds Try.pinned (OpenSpec.ofChange fnExactNewMemoryWrong)

/-- 'laws.FnExactSplitCount': WHATEVER THE INPUT: true; the input reads as it did. -/
def fnExactSplitCountSpec : ChangeSpec := { name := "fnExactSplitCount", fn := fun _ => fun
  | [d1, d2] => { results := [.lit (.bool true)], args := [d1, d2] }
  | _ => none }
def fnExactSplitCountRow : OpenClaim := { program := "ytncpnoloamebnab", sum := "ad83abd333077518565744ecb88de67f57659dfa06b3b07cfaac915eb988a40c", func := "loop.example/g03312/laws.FnExactSplitCount", spec := "fnExactSplitCount", apart := false }
def FnExactSplitCountSaid : Prop := fnExactSplitCountRow.holds Try.pinned (OpenSpec.ofChange fnExactSplitCountSpec)

/-- ITS FALSE NEIGHBOUR: 'it returns false'. Refute it at one input. -/
def fnExactSplitCountWrong : ChangeSpec := { name := "fnExactSplitCount", fn := fun _ => fun
  | [d1, d2] => { results := [.lit (.bool false)], args := [d1, d2] }
  | _ => none }
def FnExactSplitCountWrongFalsely : Prop := fnExactSplitCountRow.holds Try.pinned (OpenSpec.ofChange fnExactSplitCountWrong)

/-- 'laws.FnExactNewPool': WHATEVER THE INPUT: true; the input reads as it did. -/
def fnExactNewPoolSpec : ChangeSpec := { name := "fnExactNewPool", fn := fun _ => fun
  | [d1, d2, d3] => { results := [.lit (.bool true)], args := [d1, d2, d3] }
  | _ => none }
def fnExactNewPoolRow : OpenClaim := { program := "ytncpnoloamebnab", sum := "ad83abd333077518565744ecb88de67f57659dfa06b3b07cfaac915eb988a40c", func := "loop.example/g03312/laws.FnExactNewPool", spec := "fnExactNewPool", unfollowed := true, recurses := true, apart := false }
def FnExactNewPoolSaid : Prop := fnExactNewPoolRow.holds Try.pinned (OpenSpec.ofChange fnExactNewPoolSpec)

/-- ITS FALSE NEIGHBOUR: 'it returns false'. Refute it at one input. -/
def fnExactNewPoolWrong : ChangeSpec := { name := "fnExactNewPool", fn := fun _ => fun
  | [d1, d2, d3] => { results := [.lit (.bool false)], args := [d1, d2, d3] }
  | _ => none }
def FnExactNewPoolWrongFalsely : Prop := fnExactNewPoolRow.holds Try.pinned (OpenSpec.ofChange fnExactNewPoolWrong)

/- THE SECOND FORM. 'bulk': how many values and letters a reading holds, each counted each time it is reached (what is shared counts as often as it is met; a slice's spare places count too). A statement '..UptoSaid' is the law's where the arguments, and the package variables that the reading takes, are together of bulk at most 1048576: NARROWER than '..Said'. Prove '..Said' where nothing that the law and all that it calls make is longer than what came in: it says more and counts as full. Else prove '..UptoSaid'. A law counts once. -/
mutual
def uptoBulk {H : Type} : DataW H → Nat
  | .lit (.string bytes) => bytes.length + 1
  | .lit _ => 1
  | .nil => 1
  | .ptr d => uptoBulk d + 1
  | .slice elems spare => uptoBulkAll elems + uptoBulkAll spare + 1
  | .agg parts => uptoBulkAll parts + 1
  | .iface _ d => uptoBulk d + 1
  | .map entries => uptoBulkEntries entries + 1
  | .held _ => 1
def uptoBulkAll {H : Type} : List (DataW H) → Nat
  | [] => 0
  | d :: r => uptoBulk d + uptoBulkAll r
def uptoBulkEntries {H : Type} : List (Lit × DataW H) → Nat
  | [] => 0
  | x :: r => uptoBulkEntry x + uptoBulkEntries r
def uptoBulkEntry {H : Type} : Lit × DataW H → Nat
  | (.string bytes, d) => bytes.length + uptoBulk d + 1
  | (_, d) => uptoBulk d + 1
 end
def uptoSmall : (H : Type) → List (DataW H) → Bool := fun _ ds => decide (uptoBulkAll ds ≤ 1048576)
def OpenSpec.upto (s : _root_.Go.ChangeSpec) : _root_.Go.OpenSpec := { _root_.Go.OpenSpec.ofChange s with cond := some uptoSmall }

/-- 'laws.FnExactRingOk', WHERE WHAT IT READS IS OF BULK AT MOST 1048576: true; the input reads as it did. -/
def fnExactRingOkUptoRow : OpenClaim := { program := "ytncpnoloamebnab", sum := "ad83abd333077518565744ecb88de67f57659dfa06b3b07cfaac915eb988a40c", func := "loop.example/g03312/laws.FnExactRingOk", spec := "fnExactRingOk", apart := false, narrowed := true }
def FnExactRingOkUptoSaid : Prop := fnExactRingOkUptoRow.holds Try.pinned (OpenSpec.upto fnExactRingOkSpec)

/-- 'laws.FnExactRingUsed', WHERE WHAT IT READS IS OF BULK AT MOST 1048576: true; the input reads as it did. -/
def fnExactRingUsedUptoRow : OpenClaim := { program := "ytncpnoloamebnab", sum := "ad83abd333077518565744ecb88de67f57659dfa06b3b07cfaac915eb988a40c", func := "loop.example/g03312/laws.FnExactRingUsed", spec := "fnExactRingUsed", apart := false, narrowed := true }
def FnExactRingUsedUptoSaid : Prop := fnExactRingUsedUptoRow.holds Try.pinned (OpenSpec.upto fnExactRingUsedSpec)

/-- 'laws.FnExactRingFree', WHERE WHAT IT READS IS OF BULK AT MOST 1048576: true; the input reads as it did. -/
def fnExactRingFreeUptoRow : OpenClaim := { program := "ytncpnoloamebnab", sum := "ad83abd333077518565744ecb88de67f57659dfa06b3b07cfaac915eb988a40c", func := "loop.example/g03312/laws.FnExactRingFree", spec := "fnExactRingFree", apart := false, narrowed := true }
def FnExactRingFreeUptoSaid : Prop := fnExactRingFreeUptoRow.holds Try.pinned (OpenSpec.upto fnExactRingFreeSpec)

/-- 'laws.FnExactSlotAddress', WHERE WHAT IT READS IS OF BULK AT MOST 1048576: true; the input reads as it did. -/
def fnExactSlotAddressUptoRow : OpenClaim := { program := "ytncpnoloamebnab", sum := "ad83abd333077518565744ecb88de67f57659dfa06b3b07cfaac915eb988a40c", func := "loop.example/g03312/laws.FnExactSlotAddress", spec := "fnExactSlotAddress", apart := false, narrowed := true }
def FnExactSlotAddressUptoSaid : Prop := fnExactSlotAddressUptoRow.holds Try.pinned (OpenSpec.upto fnExactSlotAddressSpec)

/-- 'laws.FnExactQueueOk', WHERE WHAT IT READS IS OF BULK AT MOST 1048576: true; the input reads as it did. -/
def fnExactQueueOkUptoRow : OpenClaim := { program := "ytncpnoloamebnab", sum := "ad83abd333077518565744ecb88de67f57659dfa06b3b07cfaac915eb988a40c", func := "loop.example/g03312/laws.FnExactQueueOk", spec := "fnExactQueueOk", apart := false, narrowed := true }
def FnExactQueueOkUptoSaid : Prop := fnExactQueueOkUptoRow.holds Try.pinned (OpenSpec.upto fnExactQueueOkSpec)

/-- 'laws.FnExactRuleOk', WHERE WHAT IT READS IS OF BULK AT MOST 1048576: true; the input reads as it did. -/
def fnExactRuleOkUptoRow : OpenClaim := { program := "ytncpnoloamebnab", sum := "ad83abd333077518565744ecb88de67f57659dfa06b3b07cfaac915eb988a40c", func := "loop.example/g03312/laws.FnExactRuleOk", spec := "fnExactRuleOk", apart := false, narrowed := true }
def FnExactRuleOkUptoSaid : Prop := fnExactRuleOkUptoRow.holds Try.pinned (OpenSpec.upto fnExactRuleOkSpec)

/-- 'laws.FnExactRuleCovers', WHERE WHAT IT READS IS OF BULK AT MOST 1048576: true; the input reads as it did. -/
def fnExactRuleCoversUptoRow : OpenClaim := { program := "ytncpnoloamebnab", sum := "ad83abd333077518565744ecb88de67f57659dfa06b3b07cfaac915eb988a40c", func := "loop.example/g03312/laws.FnExactRuleCovers", spec := "fnExactRuleCovers", apart := false, narrowed := true }
def FnExactRuleCoversUptoSaid : Prop := fnExactRuleCoversUptoRow.holds Try.pinned (OpenSpec.upto fnExactRuleCoversSpec)

/-- 'laws.FnExactEvenTable', WHERE WHAT IT READS IS OF BULK AT MOST 1048576: true; the input reads as it did. -/
def fnExactEvenTableUptoRow : OpenClaim := { program := "ytncpnoloamebnab", sum := "ad83abd333077518565744ecb88de67f57659dfa06b3b07cfaac915eb988a40c", func := "loop.example/g03312/laws.FnExactEvenTable", spec := "fnExactEvenTable", apart := false, narrowed := true }
def FnExactEvenTableUptoSaid : Prop := fnExactEvenTableUptoRow.holds Try.pinned (OpenSpec.upto fnExactEvenTableSpec)

/-- 'laws.FnExactNewTable', WHERE WHAT IT READS IS OF BULK AT MOST 1048576: true; the input reads as it did. -/
def fnExactNewTableUptoRow : OpenClaim := { program := "ytncpnoloamebnab", sum := "ad83abd333077518565744ecb88de67f57659dfa06b3b07cfaac915eb988a40c", func := "loop.example/g03312/laws.FnExactNewTable", spec := "fnExactNewTable", apart := false, narrowed := true }
def FnExactNewTableUptoSaid : Prop := fnExactNewTableUptoRow.holds Try.pinned (OpenSpec.upto fnExactNewTableSpec)

/-- 'laws.FnExactCutPieces', WHERE WHAT IT READS IS OF BULK AT MOST 1048576: true; the input reads as it did. -/
def fnExactCutPiecesUptoRow : OpenClaim := { program := "ytncpnoloamebnab", sum := "ad83abd333077518565744ecb88de67f57659dfa06b3b07cfaac915eb988a40c", func := "loop.example/g03312/laws.FnExactCutPieces", spec := "fnExactCutPieces", apart := false, narrowed := true }
def FnExactCutPiecesUptoSaid : Prop := fnExactCutPiecesUptoRow.holds Try.pinned (OpenSpec.upto fnExactCutPiecesSpec)

/-- 'laws.FnExactNewMemory', WHERE WHAT IT READS IS OF BULK AT MOST 1048576: true; the input reads as it did. -/
def fnExactNewMemoryUptoRow : OpenClaim := { program := "ytncpnoloamebnab", sum := "ad83abd333077518565744ecb88de67f57659dfa06b3b07cfaac915eb988a40c", func := "loop.example/g03312/laws.FnExactNewMemory", spec := "fnExactNewMemory", inPlace := ["internal/abi.NoEscape", "internal/bytealg.MakeNoZero"], apart := false, narrowed := true }
def FnExactNewMemoryUptoSaid : Prop := fnExactNewMemoryUptoRow.holds Try.pinned (OpenSpec.upto fnExactNewMemorySpec)

/-- 'laws.FnExactSplitCount', WHERE WHAT IT READS IS OF BULK AT MOST 1048576: true; the input reads as it did. -/
def fnExactSplitCountUptoRow : OpenClaim := { program := "ytncpnoloamebnab", sum := "ad83abd333077518565744ecb88de67f57659dfa06b3b07cfaac915eb988a40c", func := "loop.example/g03312/laws.FnExactSplitCount", spec := "fnExactSplitCount", apart := false, narrowed := true }
def FnExactSplitCountUptoSaid : Prop := fnExactSplitCountUptoRow.holds Try.pinned (OpenSpec.upto fnExactSplitCountSpec)

/-- 'laws.FnExactNewPool', WHERE WHAT IT READS IS OF BULK AT MOST 1048576: true; the input reads as it did. -/
def fnExactNewPoolUptoRow : OpenClaim := { program := "ytncpnoloamebnab", sum := "ad83abd333077518565744ecb88de67f57659dfa06b3b07cfaac915eb988a40c", func := "loop.example/g03312/laws.FnExactNewPool", spec := "fnExactNewPool", unfollowed := true, recurses := true, apart := false, narrowed := true }
def FnExactNewPoolUptoSaid : Prop := fnExactNewPoolUptoRow.holds Try.pinned (OpenSpec.upto fnExactNewPoolSpec)

end Rows
end Go.Proofs.Ytncpnoloamebnab
