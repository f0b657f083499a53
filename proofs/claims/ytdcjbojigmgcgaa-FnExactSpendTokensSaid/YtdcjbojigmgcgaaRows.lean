/-
  No cell of these rows narrows 'for every input' (looked for: loops, veiled, ifaces, maps, wideKeys, modest, calm, conditions, laid).
  DERIVED. THE GIVEN ROWS OF THIS SEAT. 13 by the template 'for every input the law returns true; each argument reads behind the call as it read before'; 0 by the template 'total and deterministic' (their statements: YtdcjbojigmgcgaaTotals.lean).
  GIVEN WITH THE SEED: the statements are not yours to turn. If you find one false, say at which input.
  Laid BY PROGRAM, IN A SANDBOX (cutbox-rows.mjs): the forced cells as the released guide's own fill.sh prints them over the translation b6c6a4d1517e1999… (all of the seat's roots in one cut). By AI agents, Wed Nov 11 2026. No macro, syntax, notation, axiom, sorry.
-/
import Derived.Test.YtdcjbojigmgcgaaChecked
import GoSem.Claim
import GoSem.ClaimJoined
import GoSem.ClaimMapViews
import Derived.JoinedTies
import Derived.KernelRfl
namespace Go.Proofs.Ytdcjbojigmgcgaa
/- THE CELL 'sum', in the pinned program and in every row, IS THE sha256 OF THE DUMP (.gsa) THAT YtdcjbojigmgcgaaProg.lean LOADS. Nothing in Lean hashes anything: it is a label: what it is worth is what the hold of that sum in a sandbox is worth. -/
noncomputable def Try.pinned : Pinned := { name := "ytdcjbojigmgcgaa", sum := "b6c6a4d1517e1999570a8ad350a695f7ab26d3913e79f2f0ad5c212e92ed46f5", checked := Try.checked }
namespace Rows
def none {H : Type} : Left H := { results := [], args := [] }

/-- 'laws.FnExactVectorOk': WHATEVER THE INPUT: true; the input reads as it did. -/
def fnExactVectorOkSpec : ChangeSpec := { name := "fnExactVectorOk", fn := fun _ => fun
  | [d] => { results := [.lit (.bool true)], args := [d] }
  | _ => none }
def fnExactVectorOkRow : OpenClaim := { program := "ytdcjbojigmgcgaa", sum := "b6c6a4d1517e1999570a8ad350a695f7ab26d3913e79f2f0ad5c212e92ed46f5", func := "loop.example/g03312/laws.FnExactVectorOk", spec := "fnExactVectorOk", apart := false }
def FnExactVectorOkSaid : Prop := fnExactVectorOkRow.holds Try.pinned (OpenSpec.ofChange fnExactVectorOkSpec)

/-- ITS FALSE NEIGHBOUR: 'it returns false'. Refute it at one input. -/
def fnExactVectorOkWrong : ChangeSpec := { name := "fnExactVectorOk", fn := fun _ => fun
  | [d] => { results := [.lit (.bool false)], args := [d] }
  | _ => none }
def FnExactVectorOkWrongFalsely : Prop := fnExactVectorOkRow.holds Try.pinned (OpenSpec.ofChange fnExactVectorOkWrong)

/-- 'laws.FnExactNewVector': WHATEVER THE INPUT: true; the input reads as it did. -/
def fnExactNewVectorSpec : ChangeSpec := { name := "fnExactNewVector", fn := fun _ => fun
  | [d1, d2] => { results := [.lit (.bool true)], args := [d1, d2] }
  | _ => none }
def fnExactNewVectorRow : OpenClaim := { program := "ytdcjbojigmgcgaa", sum := "b6c6a4d1517e1999570a8ad350a695f7ab26d3913e79f2f0ad5c212e92ed46f5", func := "loop.example/g03312/laws.FnExactNewVector", spec := "fnExactNewVector", apart := false }
def FnExactNewVectorSaid : Prop := fnExactNewVectorRow.holds Try.pinned (OpenSpec.ofChange fnExactNewVectorSpec)

/-- ITS FALSE NEIGHBOUR: 'it returns false'. Refute it at one input. -/
def fnExactNewVectorWrong : ChangeSpec := { name := "fnExactNewVector", fn := fun _ => fun
  | [d1, d2] => { results := [.lit (.bool false)], args := [d1, d2] }
  | _ => none }
def FnExactNewVectorWrongFalsely : Prop := fnExactNewVectorRow.holds Try.pinned (OpenSpec.ofChange fnExactNewVectorWrong)

/-- 'laws.FnExactAddEvent': WHATEVER THE INPUT: true; the input reads as it did. -/
def fnExactAddEventSpec : ChangeSpec := { name := "fnExactAddEvent", fn := fun _ => fun
  | [d] => { results := [.lit (.bool true)], args := [d] }
  | _ => none }
def fnExactAddEventRow : OpenClaim := { program := "ytdcjbojigmgcgaa", sum := "b6c6a4d1517e1999570a8ad350a695f7ab26d3913e79f2f0ad5c212e92ed46f5", func := "loop.example/g03312/laws.FnExactAddEvent", spec := "fnExactAddEvent", apart := false }
def FnExactAddEventSaid : Prop := fnExactAddEventRow.holds Try.pinned (OpenSpec.ofChange fnExactAddEventSpec)

/-- ITS FALSE NEIGHBOUR: 'it returns false'. Refute it at one input. -/
def fnExactAddEventWrong : ChangeSpec := { name := "fnExactAddEvent", fn := fun _ => fun
  | [d] => { results := [.lit (.bool false)], args := [d] }
  | _ => none }
def FnExactAddEventWrongFalsely : Prop := fnExactAddEventRow.holds Try.pinned (OpenSpec.ofChange fnExactAddEventWrong)

/-- 'laws.FnExactTickVector': WHATEVER THE INPUT: true; the input reads as it did. -/
def fnExactTickVectorSpec : ChangeSpec := { name := "fnExactTickVector", fn := fun _ => fun
  | [d] => { results := [.lit (.bool true)], args := [d] }
  | _ => none }
def fnExactTickVectorRow : OpenClaim := { program := "ytdcjbojigmgcgaa", sum := "b6c6a4d1517e1999570a8ad350a695f7ab26d3913e79f2f0ad5c212e92ed46f5", func := "loop.example/g03312/laws.FnExactTickVector", spec := "fnExactTickVector", apart := false }
def FnExactTickVectorSaid : Prop := fnExactTickVectorRow.holds Try.pinned (OpenSpec.ofChange fnExactTickVectorSpec)

/-- ITS FALSE NEIGHBOUR: 'it returns false'. Refute it at one input. -/
def fnExactTickVectorWrong : ChangeSpec := { name := "fnExactTickVector", fn := fun _ => fun
  | [d] => { results := [.lit (.bool false)], args := [d] }
  | _ => none }
def FnExactTickVectorWrongFalsely : Prop := fnExactTickVectorRow.holds Try.pinned (OpenSpec.ofChange fnExactTickVectorWrong)

/-- 'laws.FnExactTakeInterrupt': WHATEVER THE INPUT: true; the input reads as it did. -/
def fnExactTakeInterruptSpec : ChangeSpec := { name := "fnExactTakeInterrupt", fn := fun _ => fun
  | [d] => { results := [.lit (.bool true)], args := [d] }
  | _ => none }
def fnExactTakeInterruptRow : OpenClaim := { program := "ytdcjbojigmgcgaa", sum := "b6c6a4d1517e1999570a8ad350a695f7ab26d3913e79f2f0ad5c212e92ed46f5", func := "loop.example/g03312/laws.FnExactTakeInterrupt", spec := "fnExactTakeInterrupt", apart := false }
def FnExactTakeInterruptSaid : Prop := fnExactTakeInterruptRow.holds Try.pinned (OpenSpec.ofChange fnExactTakeInterruptSpec)

/-- ITS FALSE NEIGHBOUR: 'it returns false'. Refute it at one input. -/
def fnExactTakeInterruptWrong : ChangeSpec := { name := "fnExactTakeInterrupt", fn := fun _ => fun
  | [d] => { results := [.lit (.bool false)], args := [d] }
  | _ => none }
def FnExactTakeInterruptWrongFalsely : Prop := fnExactTakeInterruptRow.holds Try.pinned (OpenSpec.ofChange fnExactTakeInterruptWrong)

/-- 'laws.FnExactUnmask': WHATEVER THE INPUT: true; the input reads as it did. -/
def fnExactUnmaskSpec : ChangeSpec := { name := "fnExactUnmask", fn := fun _ => fun
  | [d] => { results := [.lit (.bool true)], args := [d] }
  | _ => none }
def fnExactUnmaskRow : OpenClaim := { program := "ytdcjbojigmgcgaa", sum := "b6c6a4d1517e1999570a8ad350a695f7ab26d3913e79f2f0ad5c212e92ed46f5", func := "loop.example/g03312/laws.FnExactUnmask", spec := "fnExactUnmask", apart := false }
def FnExactUnmaskSaid : Prop := fnExactUnmaskRow.holds Try.pinned (OpenSpec.ofChange fnExactUnmaskSpec)

/-- ITS FALSE NEIGHBOUR: 'it returns false'. Refute it at one input. -/
def fnExactUnmaskWrong : ChangeSpec := { name := "fnExactUnmask", fn := fun _ => fun
  | [d] => { results := [.lit (.bool false)], args := [d] }
  | _ => none }
def FnExactUnmaskWrongFalsely : Prop := fnExactUnmaskRow.holds Try.pinned (OpenSpec.ofChange fnExactUnmaskWrong)

/-- 'laws.FnExactMaskVector': WHATEVER THE INPUT: true; the input reads as it did. -/
def fnExactMaskVectorSpec : ChangeSpec := { name := "fnExactMaskVector", fn := fun _ => fun
  | [d] => { results := [.lit (.bool true)], args := [d] }
  | _ => none }
def fnExactMaskVectorRow : OpenClaim := { program := "ytdcjbojigmgcgaa", sum := "b6c6a4d1517e1999570a8ad350a695f7ab26d3913e79f2f0ad5c212e92ed46f5", func := "loop.example/g03312/laws.FnExactMaskVector", spec := "fnExactMaskVector", apart := false }
def FnExactMaskVectorSaid : Prop := fnExactMaskVectorRow.holds Try.pinned (OpenSpec.ofChange fnExactMaskVectorSpec)

/-- ITS FALSE NEIGHBOUR: 'it returns false'. Refute it at one input. -/
def fnExactMaskVectorWrong : ChangeSpec := { name := "fnExactMaskVector", fn := fun _ => fun
  | [d] => { results := [.lit (.bool false)], args := [d] }
  | _ => none }
def FnExactMaskVectorWrongFalsely : Prop := fnExactMaskVectorRow.holds Try.pinned (OpenSpec.ofChange fnExactMaskVectorWrong)

/-- 'laws.FnExactTicksToInterrupt': WHATEVER THE INPUT: true; the input reads as it did. -/
def fnExactTicksToInterruptSpec : ChangeSpec := { name := "fnExactTicksToInterrupt", fn := fun _ => fun
  | [d] => { results := [.lit (.bool true)], args := [d] }
  | _ => none }
def fnExactTicksToInterruptRow : OpenClaim := { program := "ytdcjbojigmgcgaa", sum := "b6c6a4d1517e1999570a8ad350a695f7ab26d3913e79f2f0ad5c212e92ed46f5", func := "loop.example/g03312/laws.FnExactTicksToInterrupt", spec := "fnExactTicksToInterrupt", apart := false }
def FnExactTicksToInterruptSaid : Prop := fnExactTicksToInterruptRow.holds Try.pinned (OpenSpec.ofChange fnExactTicksToInterruptSpec)

/-- ITS FALSE NEIGHBOUR: 'it returns false'. Refute it at one input. -/
def fnExactTicksToInterruptWrong : ChangeSpec := { name := "fnExactTicksToInterrupt", fn := fun _ => fun
  | [d] => { results := [.lit (.bool false)], args := [d] }
  | _ => none }
def FnExactTicksToInterruptWrongFalsely : Prop := fnExactTicksToInterruptRow.holds Try.pinned (OpenSpec.ofChange fnExactTicksToInterruptWrong)

/-- 'laws.FnExactBucketOk': WHATEVER THE INPUT: true; the input reads as it did. -/
def fnExactBucketOkSpec : ChangeSpec := { name := "fnExactBucketOk", fn := fun _ => fun
  | [d] => { results := [.lit (.bool true)], args := [d] }
  | _ => none }
def fnExactBucketOkRow : OpenClaim := { program := "ytdcjbojigmgcgaa", sum := "b6c6a4d1517e1999570a8ad350a695f7ab26d3913e79f2f0ad5c212e92ed46f5", func := "loop.example/g03312/laws.FnExactBucketOk", spec := "fnExactBucketOk", apart := false }
def FnExactBucketOkSaid : Prop := fnExactBucketOkRow.holds Try.pinned (OpenSpec.ofChange fnExactBucketOkSpec)

/-- ITS FALSE NEIGHBOUR: 'it returns false'. Refute it at one input. -/
def fnExactBucketOkWrong : ChangeSpec := { name := "fnExactBucketOk", fn := fun _ => fun
  | [d] => { results := [.lit (.bool false)], args := [d] }
  | _ => none }
def FnExactBucketOkWrongFalsely : Prop := fnExactBucketOkRow.holds Try.pinned (OpenSpec.ofChange fnExactBucketOkWrong)

/-- 'laws.FnExactRefillBucket': WHATEVER THE INPUT: true; the input reads as it did. -/
def fnExactRefillBucketSpec : ChangeSpec := { name := "fnExactRefillBucket", fn := fun _ => fun
  | [d1, d2] => { results := [.lit (.bool true)], args := [d1, d2] }
  | _ => none }
def fnExactRefillBucketRow : OpenClaim := { program := "ytdcjbojigmgcgaa", sum := "b6c6a4d1517e1999570a8ad350a695f7ab26d3913e79f2f0ad5c212e92ed46f5", func := "loop.example/g03312/laws.FnExactRefillBucket", spec := "fnExactRefillBucket", apart := false }
def FnExactRefillBucketSaid : Prop := fnExactRefillBucketRow.holds Try.pinned (OpenSpec.ofChange fnExactRefillBucketSpec)

/-- ITS FALSE NEIGHBOUR: 'it returns false'. Refute it at one input. -/
def fnExactRefillBucketWrong : ChangeSpec := { name := "fnExactRefillBucket", fn := fun _ => fun
  | [d1, d2] => { results := [.lit (.bool false)], args := [d1, d2] }
  | _ => none }
def FnExactRefillBucketWrongFalsely : Prop := fnExactRefillBucketRow.holds Try.pinned (OpenSpec.ofChange fnExactRefillBucketWrong)

/-- 'laws.FnExactSpendTokens': WHATEVER THE INPUT: true; the input reads as it did. -/
def fnExactSpendTokensSpec : ChangeSpec := { name := "fnExactSpendTokens", fn := fun _ => fun
  | [d1, d2] => { results := [.lit (.bool true)], args := [d1, d2] }
  | _ => none }
def fnExactSpendTokensRow : OpenClaim := { program := "ytdcjbojigmgcgaa", sum := "b6c6a4d1517e1999570a8ad350a695f7ab26d3913e79f2f0ad5c212e92ed46f5", func := "loop.example/g03312/laws.FnExactSpendTokens", spec := "fnExactSpendTokens", apart := false }
def FnExactSpendTokensSaid : Prop := fnExactSpendTokensRow.holds Try.pinned (OpenSpec.ofChange fnExactSpendTokensSpec)

/-- ITS FALSE NEIGHBOUR: 'it returns false'. Refute it at one input. -/
def fnExactSpendTokensWrong : ChangeSpec := { name := "fnExactSpendTokens", fn := fun _ => fun
  | [d1, d2] => { results := [.lit (.bool false)], args := [d1, d2] }
  | _ => none }
def FnExactSpendTokensWrongFalsely : Prop := fnExactSpendTokensRow.holds Try.pinned (OpenSpec.ofChange fnExactSpendTokensWrong)

/-- 'laws.FnExactWaitTicks': WHATEVER THE INPUT: true; the input reads as it did. -/
def fnExactWaitTicksSpec : ChangeSpec := { name := "fnExactWaitTicks", fn := fun _ => fun
  | [d1, d2] => { results := [.lit (.bool true)], args := [d1, d2] }
  | _ => none }
def fnExactWaitTicksRow : OpenClaim := { program := "ytdcjbojigmgcgaa", sum := "b6c6a4d1517e1999570a8ad350a695f7ab26d3913e79f2f0ad5c212e92ed46f5", func := "loop.example/g03312/laws.FnExactWaitTicks", spec := "fnExactWaitTicks", apart := false }
def FnExactWaitTicksSaid : Prop := fnExactWaitTicksRow.holds Try.pinned (OpenSpec.ofChange fnExactWaitTicksSpec)

/-- ITS FALSE NEIGHBOUR: 'it returns false'. Refute it at one input. -/
def fnExactWaitTicksWrong : ChangeSpec := { name := "fnExactWaitTicks", fn := fun _ => fun
  | [d1, d2] => { results := [.lit (.bool false)], args := [d1, d2] }
  | _ => none }
def FnExactWaitTicksWrongFalsely : Prop := fnExactWaitTicksRow.holds Try.pinned (OpenSpec.ofChange fnExactWaitTicksWrong)

/-- 'laws.FnExactHeadroom': WHATEVER THE INPUT: true; the input reads as it did. -/
def fnExactHeadroomSpec : ChangeSpec := { name := "fnExactHeadroom", fn := fun _ => fun
  | [d1, d2] => { results := [.lit (.bool true)], args := [d1, d2] }
  | _ => none }
def fnExactHeadroomRow : OpenClaim := { program := "ytdcjbojigmgcgaa", sum := "b6c6a4d1517e1999570a8ad350a695f7ab26d3913e79f2f0ad5c212e92ed46f5", func := "loop.example/g03312/laws.FnExactHeadroom", spec := "fnExactHeadroom", apart := false }
def FnExactHeadroomSaid : Prop := fnExactHeadroomRow.holds Try.pinned (OpenSpec.ofChange fnExactHeadroomSpec)

/-- ITS FALSE NEIGHBOUR: 'it returns false'. Refute it at one input. -/
def fnExactHeadroomWrong : ChangeSpec := { name := "fnExactHeadroom", fn := fun _ => fun
  | [d1, d2] => { results := [.lit (.bool false)], args := [d1, d2] }
  | _ => none }
def FnExactHeadroomWrongFalsely : Prop := fnExactHeadroomRow.holds Try.pinned (OpenSpec.ofChange fnExactHeadroomWrong)

/- THE SECOND FORM. 'bulk': how many values and letters a reading holds, each counted each time it is reached (what is shared counts as often as it is met; a slice's spare places count too). A statement '..UptoSaid' is the law's where the arguments, and the package variables that the reading takes, are together of bulk at most 1048576: NARROWER than '..Said'. Prove '..Said' where nothing that the law and all that it calls make is longer than what came in: it says more and counts as full. Else prove '..UptoSaid'. A law counts once. -/
mutual
def uptoBulk {H : Type} : DataW H → Nat
  | .lit (.string bytes) => bytes.length + 1
  | .lit _ => 1
  | .nil => 1
  | .ptr d => uptoBulk d + 1
  | .slice elems spare => uptoBulkAll elems + uptoBulkAll spare + 1
  | .agg parts => uptoBulkAll parts + 1
  | .iface _ d => uptoBulk d + 1
  | .map entries => uptoBulkEntries entries + 1
  | .held _ => 1
def uptoBulkAll {H : Type} : List (DataW H) → Nat
  | [] => 0
  | d :: r => uptoBulk d + uptoBulkAll r
def uptoBulkEntries {H : Type} : List (Lit × DataW H) → Nat
  | [] => 0
  | x :: r => uptoBulkEntry x + uptoBulkEntries r
def uptoBulkEntry {H : Type} : Lit × DataW H → Nat
  | (.string bytes, d) => bytes.length + uptoBulk d + 1
  | (_, d) => uptoBulk d + 1
 end
def uptoSmall : (H : Type) → List (DataW H) → Bool := fun _ ds => decide (uptoBulkAll ds ≤ 1048576)
def OpenSpec.upto (s : _root_.Go.ChangeSpec) : _root_.Go.OpenSpec := { _root_.Go.OpenSpec.ofChange s with cond := some uptoSmall }

/-- 'laws.FnExactVectorOk', WHERE WHAT IT READS IS OF BULK AT MOST 1048576: true; the input reads as it did. -/
def fnExactVectorOkUptoRow : OpenClaim := { program := "ytdcjbojigmgcgaa", sum := "b6c6a4d1517e1999570a8ad350a695f7ab26d3913e79f2f0ad5c212e92ed46f5", func := "loop.example/g03312/laws.FnExactVectorOk", spec := "fnExactVectorOk", apart := false, narrowed := true }
def FnExactVectorOkUptoSaid : Prop := fnExactVectorOkUptoRow.holds Try.pinned (OpenSpec.upto fnExactVectorOkSpec)

/-- 'laws.FnExactNewVector', WHERE WHAT IT READS IS OF BULK AT MOST 1048576: true; the input reads as it did. -/
def fnExactNewVectorUptoRow : OpenClaim := { program := "ytdcjbojigmgcgaa", sum := "b6c6a4d1517e1999570a8ad350a695f7ab26d3913e79f2f0ad5c212e92ed46f5", func := "loop.example/g03312/laws.FnExactNewVector", spec := "fnExactNewVector", apart := false, narrowed := true }
def FnExactNewVectorUptoSaid : Prop := fnExactNewVectorUptoRow.holds Try.pinned (OpenSpec.upto fnExactNewVectorSpec)

/-- 'laws.FnExactAddEvent', WHERE WHAT IT READS IS OF BULK AT MOST 1048576: true; the input reads as it did. -/
def fnExactAddEventUptoRow : OpenClaim := { program := "ytdcjbojigmgcgaa", sum := "b6c6a4d1517e1999570a8ad350a695f7ab26d3913e79f2f0ad5c212e92ed46f5", func := "loop.example/g03312/laws.FnExactAddEvent", spec := "fnExactAddEvent", apart := false, narrowed := true }
def FnExactAddEventUptoSaid : Prop := fnExactAddEventUptoRow.holds Try.pinned (OpenSpec.upto fnExactAddEventSpec)

/-- 'laws.FnExactTickVector', WHERE WHAT IT READS IS OF BULK AT MOST 1048576: true; the input reads as it did. -/
def fnExactTickVectorUptoRow : OpenClaim := { program := "ytdcjbojigmgcgaa", sum := "b6c6a4d1517e1999570a8ad350a695f7ab26d3913e79f2f0ad5c212e92ed46f5", func := "loop.example/g03312/laws.FnExactTickVector", spec := "fnExactTickVector", apart := false, narrowed := true }
def FnExactTickVectorUptoSaid : Prop := fnExactTickVectorUptoRow.holds Try.pinned (OpenSpec.upto fnExactTickVectorSpec)

/-- 'laws.FnExactTakeInterrupt', WHERE WHAT IT READS IS OF BULK AT MOST 1048576: true; the input reads as it did. -/
def fnExactTakeInterruptUptoRow : OpenClaim := { program := "ytdcjbojigmgcgaa", sum := "b6c6a4d1517e1999570a8ad350a695f7ab26d3913e79f2f0ad5c212e92ed46f5", func := "loop.example/g03312/laws.FnExactTakeInterrupt", spec := "fnExactTakeInterrupt", apart := false, narrowed := true }
def FnExactTakeInterruptUptoSaid : Prop := fnExactTakeInterruptUptoRow.holds Try.pinned (OpenSpec.upto fnExactTakeInterruptSpec)

/-- 'laws.FnExactUnmask', WHERE WHAT IT READS IS OF BULK AT MOST 1048576: true; the input reads as it did. -/
def fnExactUnmaskUptoRow : OpenClaim := { program := "ytdcjbojigmgcgaa", sum := "b6c6a4d1517e1999570a8ad350a695f7ab26d3913e79f2f0ad5c212e92ed46f5", func := "loop.example/g03312/laws.FnExactUnmask", spec := "fnExactUnmask", apart := false, narrowed := true }
def FnExactUnmaskUptoSaid : Prop := fnExactUnmaskUptoRow.holds Try.pinned (OpenSpec.upto fnExactUnmaskSpec)

/-- 'laws.FnExactMaskVector', WHERE WHAT IT READS IS OF BULK AT MOST 1048576: true; the input reads as it did. -/
def fnExactMaskVectorUptoRow : OpenClaim := { program := "ytdcjbojigmgcgaa", sum := "b6c6a4d1517e1999570a8ad350a695f7ab26d3913e79f2f0ad5c212e92ed46f5", func := "loop.example/g03312/laws.FnExactMaskVector", spec := "fnExactMaskVector", apart := false, narrowed := true }
def FnExactMaskVectorUptoSaid : Prop := fnExactMaskVectorUptoRow.holds Try.pinned (OpenSpec.upto fnExactMaskVectorSpec)

/-- 'laws.FnExactTicksToInterrupt', WHERE WHAT IT READS IS OF BULK AT MOST 1048576: true; the input reads as it did. -/
def fnExactTicksToInterruptUptoRow : OpenClaim := { program := "ytdcjbojigmgcgaa", sum := "b6c6a4d1517e1999570a8ad350a695f7ab26d3913e79f2f0ad5c212e92ed46f5", func := "loop.example/g03312/laws.FnExactTicksToInterrupt", spec := "fnExactTicksToInterrupt", apart := false, narrowed := true }
def FnExactTicksToInterruptUptoSaid : Prop := fnExactTicksToInterruptUptoRow.holds Try.pinned (OpenSpec.upto fnExactTicksToInterruptSpec)

/-- 'laws.FnExactBucketOk', WHERE WHAT IT READS IS OF BULK AT MOST 1048576: true; the input reads as it did. -/
def fnExactBucketOkUptoRow : OpenClaim := { program := "ytdcjbojigmgcgaa", sum := "b6c6a4d1517e1999570a8ad350a695f7ab26d3913e79f2f0ad5c212e92ed46f5", func := "loop.example/g03312/laws.FnExactBucketOk", spec := "fnExactBucketOk", apart := false, narrowed := true }
def FnExactBucketOkUptoSaid : Prop := fnExactBucketOkUptoRow.holds Try.pinned (OpenSpec.upto fnExactBucketOkSpec)

/-- 'laws.FnExactRefillBucket', WHERE WHAT IT READS IS OF BULK AT MOST 1048576: true; the input reads as it did. -/
def fnExactRefillBucketUptoRow : OpenClaim := { program := "ytdcjbojigmgcgaa", sum := "b6c6a4d1517e1999570a8ad350a695f7ab26d3913e79f2f0ad5c212e92ed46f5", func := "loop.example/g03312/laws.FnExactRefillBucket", spec := "fnExactRefillBucket", apart := false, narrowed := true }
def FnExactRefillBucketUptoSaid : Prop := fnExactRefillBucketUptoRow.holds Try.pinned (OpenSpec.upto fnExactRefillBucketSpec)

/-- 'laws.FnExactSpendTokens', WHERE WHAT IT READS IS OF BULK AT MOST 1048576: true; the input reads as it did. -/
def fnExactSpendTokensUptoRow : OpenClaim := { program := "ytdcjbojigmgcgaa", sum := "b6c6a4d1517e1999570a8ad350a695f7ab26d3913e79f2f0ad5c212e92ed46f5", func := "loop.example/g03312/laws.FnExactSpendTokens", spec := "fnExactSpendTokens", apart := false, narrowed := true }
def FnExactSpendTokensUptoSaid : Prop := fnExactSpendTokensUptoRow.holds Try.pinned (OpenSpec.upto fnExactSpendTokensSpec)

/-- 'laws.FnExactWaitTicks', WHERE WHAT IT READS IS OF BULK AT MOST 1048576: true; the input reads as it did. -/
def fnExactWaitTicksUptoRow : OpenClaim := { program := "ytdcjbojigmgcgaa", sum := "b6c6a4d1517e1999570a8ad350a695f7ab26d3913e79f2f0ad5c212e92ed46f5", func := "loop.example/g03312/laws.FnExactWaitTicks", spec := "fnExactWaitTicks", apart := false, narrowed := true }
def FnExactWaitTicksUptoSaid : Prop := fnExactWaitTicksUptoRow.holds Try.pinned (OpenSpec.upto fnExactWaitTicksSpec)

/-- 'laws.FnExactHeadroom', WHERE WHAT IT READS IS OF BULK AT MOST 1048576: true; the input reads as it did. -/
def fnExactHeadroomUptoRow : OpenClaim := { program := "ytdcjbojigmgcgaa", sum := "b6c6a4d1517e1999570a8ad350a695f7ab26d3913e79f2f0ad5c212e92ed46f5", func := "loop.example/g03312/laws.FnExactHeadroom", spec := "fnExactHeadroom", apart := false, narrowed := true }
def FnExactHeadroomUptoSaid : Prop := fnExactHeadroomUptoRow.holds Try.pinned (OpenSpec.upto fnExactHeadroomSpec)

end Rows
end Go.Proofs.Ytdcjbojigmgcgaa
