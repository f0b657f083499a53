/-
  No cell of these rows narrows 'for every input' (looked for: loops, veiled, ifaces, maps, wideKeys, modest, calm, conditions, laid).
  DERIVED. THE GIVEN ROWS OF THIS SEAT. 15 by the template 'for every input the law returns true; each argument reads behind the call as it read before'; 0 by the template 'total and deterministic' (their statements: YtdlmplbhhgcffaaTotals.lean).
  GIVEN WITH THE SEED: the statements are not yours to turn. If you find one false, say at which input.
  Laid BY PROGRAM, IN A SANDBOX (cutbox-rows.mjs): the forced cells as the released guide's own fill.sh prints them over the translation 2640433c45cafaaa… (all of the seat's roots in one cut). By AI agents, Wed Nov 11 2026. No macro, syntax, notation, axiom, sorry.
-/
import Derived.Test.YtdlmplbhhgcffaaChecked
import GoSem.Claim
import GoSem.ClaimJoined
import GoSem.ClaimMapViews
import Derived.JoinedTies
import Derived.KernelRfl
namespace Go.Proofs.Ytdlmplbhhgcffaa
/- THE CELL 'sum', in the pinned program and in every row, IS THE sha256 OF THE DUMP (.gsa) THAT YtdlmplbhhgcffaaProg.lean LOADS. Nothing in Lean hashes anything: it is a label: what it is worth is what the hold of that sum in a sandbox is worth. -/
noncomputable def Try.pinned : Pinned := { name := "ytdlmplbhhgcffaa", sum := "2640433c45cafaaa87fc872f4bb682804c23870d52f76037fcf0f7e2f4c0b676", checked := Try.checked }
namespace Rows
def none {H : Type} : Left H := { results := [], args := [] }

/-- 'laws.FnEthRound': WHATEVER THE INPUT: true; the input reads as it did. -/
def fnEthRoundSpec : ChangeSpec := { name := "fnEthRound", fn := fun _ => fun
  | [d] => { results := [.lit (.bool true)], args := [d] }
  | _ => none }
def fnEthRoundRow : OpenClaim := { program := "ytdlmplbhhgcffaa", sum := "2640433c45cafaaa87fc872f4bb682804c23870d52f76037fcf0f7e2f4c0b676", func := "loop.example/g03312/laws.FnEthRound", spec := "fnEthRound", apart := false }
def FnEthRoundSaid : Prop := fnEthRoundRow.holds Try.pinned (OpenSpec.ofChange fnEthRoundSpec)

/-- ITS FALSE NEIGHBOUR: 'it returns false'. Refute it at one input. -/
def fnEthRoundWrong : ChangeSpec := { name := "fnEthRound", fn := fun _ => fun
  | [d] => { results := [.lit (.bool false)], args := [d] }
  | _ => none }
def FnEthRoundWrongFalsely : Prop := fnEthRoundRow.holds Try.pinned (OpenSpec.ofChange fnEthRoundWrong)

/-- 'laws.FnExactEthOk': WHATEVER THE INPUT: true; the input reads as it did. -/
def fnExactEthOkSpec : ChangeSpec := { name := "fnExactEthOk", fn := fun _ => fun
  | [d] => { results := [.lit (.bool true)], args := [d] }
  | _ => none }
def fnExactEthOkRow : OpenClaim := { program := "ytdlmplbhhgcffaa", sum := "2640433c45cafaaa87fc872f4bb682804c23870d52f76037fcf0f7e2f4c0b676", func := "loop.example/g03312/laws.FnExactEthOk", spec := "fnExactEthOk", apart := false }
def FnExactEthOkSaid : Prop := fnExactEthOkRow.holds Try.pinned (OpenSpec.ofChange fnExactEthOkSpec)

/-- ITS FALSE NEIGHBOUR: 'it returns false'. Refute it at one input. -/
def fnExactEthOkWrong : ChangeSpec := { name := "fnExactEthOk", fn := fun _ => fun
  | [d] => { results := [.lit (.bool false)], args := [d] }
  | _ => none }
def FnExactEthOkWrongFalsely : Prop := fnExactEthOkRow.holds Try.pinned (OpenSpec.ofChange fnExactEthOkWrong)

/-- 'laws.FnExactBuildEth': WHATEVER THE INPUT: true; the input reads as it did. -/
def fnExactBuildEthSpec : ChangeSpec := { name := "fnExactBuildEth", fn := fun _ => fun
  | [d] => { results := [.lit (.bool true)], args := [d] }
  | _ => none }
def fnExactBuildEthRow : OpenClaim := { program := "ytdlmplbhhgcffaa", sum := "2640433c45cafaaa87fc872f4bb682804c23870d52f76037fcf0f7e2f4c0b676", func := "loop.example/g03312/laws.FnExactBuildEth", spec := "fnExactBuildEth", apart := false }
def FnExactBuildEthSaid : Prop := fnExactBuildEthRow.holds Try.pinned (OpenSpec.ofChange fnExactBuildEthSpec)

/-- ITS FALSE NEIGHBOUR: 'it returns false'. Refute it at one input. -/
def fnExactBuildEthWrong : ChangeSpec := { name := "fnExactBuildEth", fn := fun _ => fun
  | [d] => { results := [.lit (.bool false)], args := [d] }
  | _ => none }
def FnExactBuildEthWrongFalsely : Prop := fnExactBuildEthRow.holds Try.pinned (OpenSpec.ofChange fnExactBuildEthWrong)

/-- 'laws.FnExactParseEth': WHATEVER THE INPUT: true; the input reads as it did. -/
def fnExactParseEthSpec : ChangeSpec := { name := "fnExactParseEth", fn := fun _ => fun
  | [d] => { results := [.lit (.bool true)], args := [d] }
  | _ => none }
def fnExactParseEthRow : OpenClaim := { program := "ytdlmplbhhgcffaa", sum := "2640433c45cafaaa87fc872f4bb682804c23870d52f76037fcf0f7e2f4c0b676", func := "loop.example/g03312/laws.FnExactParseEth", spec := "fnExactParseEth", apart := false }
def FnExactParseEthSaid : Prop := fnExactParseEthRow.holds Try.pinned (OpenSpec.ofChange fnExactParseEthSpec)

/-- ITS FALSE NEIGHBOUR: 'it returns false'. Refute it at one input. -/
def fnExactParseEthWrong : ChangeSpec := { name := "fnExactParseEth", fn := fun _ => fun
  | [d] => { results := [.lit (.bool false)], args := [d] }
  | _ => none }
def FnExactParseEthWrongFalsely : Prop := fnExactParseEthRow.holds Try.pinned (OpenSpec.ofChange fnExactParseEthWrong)

/-- 'laws.FnExactInsertTag': WHATEVER THE INPUT: true; the input reads as it did. -/
def fnExactInsertTagSpec : ChangeSpec := { name := "fnExactInsertTag", fn := fun _ => fun
  | [d1, d2] => { results := [.lit (.bool true)], args := [d1, d2] }
  | _ => none }
def fnExactInsertTagRow : OpenClaim := { program := "ytdlmplbhhgcffaa", sum := "2640433c45cafaaa87fc872f4bb682804c23870d52f76037fcf0f7e2f4c0b676", func := "loop.example/g03312/laws.FnExactInsertTag", spec := "fnExactInsertTag", apart := false }
def FnExactInsertTagSaid : Prop := fnExactInsertTagRow.holds Try.pinned (OpenSpec.ofChange fnExactInsertTagSpec)

/-- ITS FALSE NEIGHBOUR: 'it returns false'. Refute it at one input. -/
def fnExactInsertTagWrong : ChangeSpec := { name := "fnExactInsertTag", fn := fun _ => fun
  | [d1, d2] => { results := [.lit (.bool false)], args := [d1, d2] }
  | _ => none }
def FnExactInsertTagWrongFalsely : Prop := fnExactInsertTagRow.holds Try.pinned (OpenSpec.ofChange fnExactInsertTagWrong)

/-- 'laws.FnExactStripTag': WHATEVER THE INPUT: true; the input reads as it did. -/
def fnExactStripTagSpec : ChangeSpec := { name := "fnExactStripTag", fn := fun _ => fun
  | [d] => { results := [.lit (.bool true)], args := [d] }
  | _ => none }
def fnExactStripTagRow : OpenClaim := { program := "ytdlmplbhhgcffaa", sum := "2640433c45cafaaa87fc872f4bb682804c23870d52f76037fcf0f7e2f4c0b676", func := "loop.example/g03312/laws.FnExactStripTag", spec := "fnExactStripTag", apart := false }
def FnExactStripTagSaid : Prop := fnExactStripTagRow.holds Try.pinned (OpenSpec.ofChange fnExactStripTagSpec)

/-- ITS FALSE NEIGHBOUR: 'it returns false'. Refute it at one input. -/
def fnExactStripTagWrong : ChangeSpec := { name := "fnExactStripTag", fn := fun _ => fun
  | [d] => { results := [.lit (.bool false)], args := [d] }
  | _ => none }
def FnExactStripTagWrongFalsely : Prop := fnExactStripTagRow.holds Try.pinned (OpenSpec.ofChange fnExactStripTagWrong)

/-- 'laws.FnExactPadBody': WHATEVER THE INPUT: true; the input reads as it did. -/
def fnExactPadBodySpec : ChangeSpec := { name := "fnExactPadBody", fn := fun _ => fun
  | [d] => { results := [.lit (.bool true)], args := [d] }
  | _ => none }
def fnExactPadBodyRow : OpenClaim := { program := "ytdlmplbhhgcffaa", sum := "2640433c45cafaaa87fc872f4bb682804c23870d52f76037fcf0f7e2f4c0b676", func := "loop.example/g03312/laws.FnExactPadBody", spec := "fnExactPadBody", inPlace := ["internal/abi.NoEscape", "internal/bytealg.MakeNoZero"], apart := false }
def FnExactPadBodySaid : Prop := fnExactPadBodyRow.holds Try.pinned (OpenSpec.ofChange fnExactPadBodySpec)

/-- ITS FALSE NEIGHBOUR: 'it returns false'. Refute it at one input. -/
def fnExactPadBodyWrong : ChangeSpec := { name := "fnExactPadBody", fn := fun _ => fun
  | [d] => { results := [.lit (.bool false)], args := [d] }
  | _ => none }
def FnExactPadBodyWrongFalsely : Prop := fnExactPadBodyRow.holds Try.pinned (OpenSpec.ofChange fnExactPadBodyWrong)

/-- 'laws.FnExactIpOk': WHATEVER THE INPUT: true; the input reads as it did. -/
def fnExactIpOkSpec : ChangeSpec := { name := "fnExactIpOk", fn := fun _ => fun
  | [d] => { results := [.lit (.bool true)], args := [d] }
  | _ => none }
def fnExactIpOkRow : OpenClaim := { program := "ytdlmplbhhgcffaa", sum := "2640433c45cafaaa87fc872f4bb682804c23870d52f76037fcf0f7e2f4c0b676", func := "loop.example/g03312/laws.FnExactIpOk", spec := "fnExactIpOk", apart := false }
def FnExactIpOkSaid : Prop := fnExactIpOkRow.holds Try.pinned (OpenSpec.ofChange fnExactIpOkSpec)

/-- ITS FALSE NEIGHBOUR: 'it returns false'. Refute it at one input. -/
def fnExactIpOkWrong : ChangeSpec := { name := "fnExactIpOk", fn := fun _ => fun
  | [d] => { results := [.lit (.bool false)], args := [d] }
  | _ => none }
def FnExactIpOkWrongFalsely : Prop := fnExactIpOkRow.holds Try.pinned (OpenSpec.ofChange fnExactIpOkWrong)

/-- 'laws.FnExactIpHeader': WHATEVER THE INPUT: true; the input reads as it did. -/
def fnExactIpHeaderSpec : ChangeSpec := { name := "fnExactIpHeader", fn := fun _ => fun
  | [d] => { results := [.lit (.bool true)], args := [d] }
  | _ => none }
def fnExactIpHeaderRow : OpenClaim := { program := "ytdlmplbhhgcffaa", sum := "2640433c45cafaaa87fc872f4bb682804c23870d52f76037fcf0f7e2f4c0b676", func := "loop.example/g03312/laws.FnExactIpHeader", spec := "fnExactIpHeader", apart := false }
def FnExactIpHeaderSaid : Prop := fnExactIpHeaderRow.holds Try.pinned (OpenSpec.ofChange fnExactIpHeaderSpec)

/-- ITS FALSE NEIGHBOUR: 'it returns false'. Refute it at one input. -/
def fnExactIpHeaderWrong : ChangeSpec := { name := "fnExactIpHeader", fn := fun _ => fun
  | [d] => { results := [.lit (.bool false)], args := [d] }
  | _ => none }
def FnExactIpHeaderWrongFalsely : Prop := fnExactIpHeaderRow.holds Try.pinned (OpenSpec.ofChange fnExactIpHeaderWrong)

/-- 'laws.FnExactBuildIp': WHATEVER THE INPUT: true; the input reads as it did. -/
def fnExactBuildIpSpec : ChangeSpec := { name := "fnExactBuildIp", fn := fun _ => fun
  | [d] => { results := [.lit (.bool true)], args := [d] }
  | _ => none }
def fnExactBuildIpRow : OpenClaim := { program := "ytdlmplbhhgcffaa", sum := "2640433c45cafaaa87fc872f4bb682804c23870d52f76037fcf0f7e2f4c0b676", func := "loop.example/g03312/laws.FnExactBuildIp", spec := "fnExactBuildIp", apart := false }
def FnExactBuildIpSaid : Prop := fnExactBuildIpRow.holds Try.pinned (OpenSpec.ofChange fnExactBuildIpSpec)

/-- ITS FALSE NEIGHBOUR: 'it returns false'. Refute it at one input. -/
def fnExactBuildIpWrong : ChangeSpec := { name := "fnExactBuildIp", fn := fun _ => fun
  | [d] => { results := [.lit (.bool false)], args := [d] }
  | _ => none }
def FnExactBuildIpWrongFalsely : Prop := fnExactBuildIpRow.holds Try.pinned (OpenSpec.ofChange fnExactBuildIpWrong)

/-- 'laws.FnSegmentRound': WHATEVER THE INPUT: true; the input reads as it did. -/
def fnSegmentRoundSpec : ChangeSpec := { name := "fnSegmentRound", fn := fun _ => fun
  | [d] => { results := [.lit (.bool true)], args := [d] }
  | _ => none }
def fnSegmentRoundRow : OpenClaim := { program := "ytdlmplbhhgcffaa", sum := "2640433c45cafaaa87fc872f4bb682804c23870d52f76037fcf0f7e2f4c0b676", func := "loop.example/g03312/laws.FnSegmentRound", spec := "fnSegmentRound", apart := false }
def FnSegmentRoundSaid : Prop := fnSegmentRoundRow.holds Try.pinned (OpenSpec.ofChange fnSegmentRoundSpec)

/-- ITS FALSE NEIGHBOUR: 'it returns false'. Refute it at one input. -/
def fnSegmentRoundWrong : ChangeSpec := { name := "fnSegmentRound", fn := fun _ => fun
  | [d] => { results := [.lit (.bool false)], args := [d] }
  | _ => none }
def FnSegmentRoundWrongFalsely : Prop := fnSegmentRoundRow.holds Try.pinned (OpenSpec.ofChange fnSegmentRoundWrong)

/-- 'laws.FnExactSegmentOk': WHATEVER THE INPUT: true; the input reads as it did. -/
def fnExactSegmentOkSpec : ChangeSpec := { name := "fnExactSegmentOk", fn := fun _ => fun
  | [d] => { results := [.lit (.bool true)], args := [d] }
  | _ => none }
def fnExactSegmentOkRow : OpenClaim := { program := "ytdlmplbhhgcffaa", sum := "2640433c45cafaaa87fc872f4bb682804c23870d52f76037fcf0f7e2f4c0b676", func := "loop.example/g03312/laws.FnExactSegmentOk", spec := "fnExactSegmentOk", apart := false }
def FnExactSegmentOkSaid : Prop := fnExactSegmentOkRow.holds Try.pinned (OpenSpec.ofChange fnExactSegmentOkSpec)

/-- ITS FALSE NEIGHBOUR: 'it returns false'. Refute it at one input. -/
def fnExactSegmentOkWrong : ChangeSpec := { name := "fnExactSegmentOk", fn := fun _ => fun
  | [d] => { results := [.lit (.bool false)], args := [d] }
  | _ => none }
def FnExactSegmentOkWrongFalsely : Prop := fnExactSegmentOkRow.holds Try.pinned (OpenSpec.ofChange fnExactSegmentOkWrong)

/-- 'laws.FnExactPseudoHeader': WHATEVER THE INPUT: true; the input reads as it did. -/
def fnExactPseudoHeaderSpec : ChangeSpec := { name := "fnExactPseudoHeader", fn := fun _ => fun
  | [d1, d2, d3, d4] => { results := [.lit (.bool true)], args := [d1, d2, d3, d4] }
  | _ => none }
def fnExactPseudoHeaderRow : OpenClaim := { program := "ytdlmplbhhgcffaa", sum := "2640433c45cafaaa87fc872f4bb682804c23870d52f76037fcf0f7e2f4c0b676", func := "loop.example/g03312/laws.FnExactPseudoHeader", spec := "fnExactPseudoHeader", apart := false }
def FnExactPseudoHeaderSaid : Prop := fnExactPseudoHeaderRow.holds Try.pinned (OpenSpec.ofChange fnExactPseudoHeaderSpec)

/-- ITS FALSE NEIGHBOUR: 'it returns false'. Refute it at one input. -/
def fnExactPseudoHeaderWrong : ChangeSpec := { name := "fnExactPseudoHeader", fn := fun _ => fun
  | [d1, d2, d3, d4] => { results := [.lit (.bool false)], args := [d1, d2, d3, d4] }
  | _ => none }
def FnExactPseudoHeaderWrongFalsely : Prop := fnExactPseudoHeaderRow.holds Try.pinned (OpenSpec.ofChange fnExactPseudoHeaderWrong)

/-- 'laws.FnExactBuildSegment': WHATEVER THE INPUT: true; the input reads as it did. -/
def fnExactBuildSegmentSpec : ChangeSpec := { name := "fnExactBuildSegment", fn := fun _ => fun
  | [d1, d2, d3] => { results := [.lit (.bool true)], args := [d1, d2, d3] }
  | _ => none }
def fnExactBuildSegmentRow : OpenClaim := { program := "ytdlmplbhhgcffaa", sum := "2640433c45cafaaa87fc872f4bb682804c23870d52f76037fcf0f7e2f4c0b676", func := "loop.example/g03312/laws.FnExactBuildSegment", spec := "fnExactBuildSegment", apart := false }
def FnExactBuildSegmentSaid : Prop := fnExactBuildSegmentRow.holds Try.pinned (OpenSpec.ofChange fnExactBuildSegmentSpec)

/-- ITS FALSE NEIGHBOUR: 'it returns false'. Refute it at one input. -/
def fnExactBuildSegmentWrong : ChangeSpec := { name := "fnExactBuildSegment", fn := fun _ => fun
  | [d1, d2, d3] => { results := [.lit (.bool false)], args := [d1, d2, d3] }
  | _ => none }
def FnExactBuildSegmentWrongFalsely : Prop := fnExactBuildSegmentRow.holds Try.pinned (OpenSpec.ofChange fnExactBuildSegmentWrong)

/-- 'laws.FnExactParseSegment': WHATEVER THE INPUT: true; the input reads as it did. -/
def fnExactParseSegmentSpec : ChangeSpec := { name := "fnExactParseSegment", fn := fun _ => fun
  | [d1, d2, d3, d4] => { results := [.lit (.bool true)], args := [d1, d2, d3, d4] }
  | _ => none }
def fnExactParseSegmentRow : OpenClaim := { program := "ytdlmplbhhgcffaa", sum := "2640433c45cafaaa87fc872f4bb682804c23870d52f76037fcf0f7e2f4c0b676", func := "loop.example/g03312/laws.FnExactParseSegment", spec := "fnExactParseSegment", apart := false }
def FnExactParseSegmentSaid : Prop := fnExactParseSegmentRow.holds Try.pinned (OpenSpec.ofChange fnExactParseSegmentSpec)

/-- ITS FALSE NEIGHBOUR: 'it returns false'. Refute it at one input. -/
def fnExactParseSegmentWrong : ChangeSpec := { name := "fnExactParseSegment", fn := fun _ => fun
  | [d1, d2, d3, d4] => { results := [.lit (.bool false)], args := [d1, d2, d3, d4] }
  | _ => none }
def FnExactParseSegmentWrongFalsely : Prop := fnExactParseSegmentRow.holds Try.pinned (OpenSpec.ofChange fnExactParseSegmentWrong)

/- THE SECOND FORM. 'bulk': how many values and letters a reading holds, each counted each time it is reached (what is shared counts as often as it is met; a slice's spare places count too). A statement '..UptoSaid' is the law's where the arguments, and the package variables that the reading takes, are together of bulk at most 1048576: NARROWER than '..Said'. Prove '..Said' where nothing that the law and all that it calls make is longer than what came in: it says more and counts as full. Else prove '..UptoSaid'. A law counts once. -/
mutual
def uptoBulk {H : Type} : DataW H → Nat
  | .lit (.string bytes) => bytes.length + 1
  | .lit _ => 1
  | .nil => 1
  | .ptr d => uptoBulk d + 1
  | .slice elems spare => uptoBulkAll elems + uptoBulkAll spare + 1
  | .agg parts => uptoBulkAll parts + 1
  | .iface _ d => uptoBulk d + 1
  | .map entries => uptoBulkEntries entries + 1
  | .held _ => 1
def uptoBulkAll {H : Type} : List (DataW H) → Nat
  | [] => 0
  | d :: r => uptoBulk d + uptoBulkAll r
def uptoBulkEntries {H : Type} : List (Lit × DataW H) → Nat
  | [] => 0
  | x :: r => uptoBulkEntry x + uptoBulkEntries r
def uptoBulkEntry {H : Type} : Lit × DataW H → Nat
  | (.string bytes, d) => bytes.length + uptoBulk d + 1
  | (_, d) => uptoBulk d + 1
 end
def uptoSmall : (H : Type) → List (DataW H) → Bool := fun _ ds => decide (uptoBulkAll ds ≤ 1048576)
def OpenSpec.upto (s : _root_.Go.ChangeSpec) : _root_.Go.OpenSpec := { _root_.Go.OpenSpec.ofChange s with cond := some uptoSmall }

/-- 'laws.FnEthRound', WHERE WHAT IT READS IS OF BULK AT MOST 1048576: true; the input reads as it did. -/
def fnEthRoundUptoRow : OpenClaim := { program := "ytdlmplbhhgcffaa", sum := "2640433c45cafaaa87fc872f4bb682804c23870d52f76037fcf0f7e2f4c0b676", func := "loop.example/g03312/laws.FnEthRound", spec := "fnEthRound", apart := false, narrowed := true }
def FnEthRoundUptoSaid : Prop := fnEthRoundUptoRow.holds Try.pinned (OpenSpec.upto fnEthRoundSpec)

/-- 'laws.FnExactEthOk', WHERE WHAT IT READS IS OF BULK AT MOST 1048576: true; the input reads as it did. -/
def fnExactEthOkUptoRow : OpenClaim := { program := "ytdlmplbhhgcffaa", sum := "2640433c45cafaaa87fc872f4bb682804c23870d52f76037fcf0f7e2f4c0b676", func := "loop.example/g03312/laws.FnExactEthOk", spec := "fnExactEthOk", apart := false, narrowed := true }
def FnExactEthOkUptoSaid : Prop := fnExactEthOkUptoRow.holds Try.pinned (OpenSpec.upto fnExactEthOkSpec)

/-- 'laws.FnExactBuildEth', WHERE WHAT IT READS IS OF BULK AT MOST 1048576: true; the input reads as it did. -/
def fnExactBuildEthUptoRow : OpenClaim := { program := "ytdlmplbhhgcffaa", sum := "2640433c45cafaaa87fc872f4bb682804c23870d52f76037fcf0f7e2f4c0b676", func := "loop.example/g03312/laws.FnExactBuildEth", spec := "fnExactBuildEth", apart := false, narrowed := true }
def FnExactBuildEthUptoSaid : Prop := fnExactBuildEthUptoRow.holds Try.pinned (OpenSpec.upto fnExactBuildEthSpec)

/-- 'laws.FnExactParseEth', WHERE WHAT IT READS IS OF BULK AT MOST 1048576: true; the input reads as it did. -/
def fnExactParseEthUptoRow : OpenClaim := { program := "ytdlmplbhhgcffaa", sum := "2640433c45cafaaa87fc872f4bb682804c23870d52f76037fcf0f7e2f4c0b676", func := "loop.example/g03312/laws.FnExactParseEth", spec := "fnExactParseEth", apart := false, narrowed := true }
def FnExactParseEthUptoSaid : Prop := fnExactParseEthUptoRow.holds Try.pinned (OpenSpec.upto fnExactParseEthSpec)

/-- 'laws.FnExactInsertTag', WHERE WHAT IT READS IS OF BULK AT MOST 1048576: true; the input reads as it did. -/
def fnExactInsertTagUptoRow : OpenClaim := { program := "ytdlmplbhhgcffaa", sum := "2640433c45cafaaa87fc872f4bb682804c23870d52f76037fcf0f7e2f4c0b676", func := "loop.example/g03312/laws.FnExactInsertTag", spec := "fnExactInsertTag", apart := false, narrowed := true }
def FnExactInsertTagUptoSaid : Prop := fnExactInsertTagUptoRow.holds Try.pinned (OpenSpec.upto fnExactInsertTagSpec)

/-- 'laws.FnExactStripTag', WHERE WHAT IT READS IS OF BULK AT MOST 1048576: true; the input reads as it did. -/
def fnExactStripTagUptoRow : OpenClaim := { program := "ytdlmplbhhgcffaa", sum := "2640433c45cafaaa87fc872f4bb682804c23870d52f76037fcf0f7e2f4c0b676", func := "loop.example/g03312/laws.FnExactStripTag", spec := "fnExactStripTag", apart := false, narrowed := true }
def FnExactStripTagUptoSaid : Prop := fnExactStripTagUptoRow.holds Try.pinned (OpenSpec.upto fnExactStripTagSpec)

/-- 'laws.FnExactPadBody', WHERE WHAT IT READS IS OF BULK AT MOST 1048576: true; the input reads as it did. -/
def fnExactPadBodyUptoRow : OpenClaim := { program := "ytdlmplbhhgcffaa", sum := "2640433c45cafaaa87fc872f4bb682804c23870d52f76037fcf0f7e2f4c0b676", func := "loop.example/g03312/laws.FnExactPadBody", spec := "fnExactPadBody", inPlace := ["internal/abi.NoEscape", "internal/bytealg.MakeNoZero"], apart := false, narrowed := true }
def FnExactPadBodyUptoSaid : Prop := fnExactPadBodyUptoRow.holds Try.pinned (OpenSpec.upto fnExactPadBodySpec)

/-- 'laws.FnExactIpOk', WHERE WHAT IT READS IS OF BULK AT MOST 1048576: true; the input reads as it did. -/
def fnExactIpOkUptoRow : OpenClaim := { program := "ytdlmplbhhgcffaa", sum := "2640433c45cafaaa87fc872f4bb682804c23870d52f76037fcf0f7e2f4c0b676", func := "loop.example/g03312/laws.FnExactIpOk", spec := "fnExactIpOk", apart := false, narrowed := true }
def FnExactIpOkUptoSaid : Prop := fnExactIpOkUptoRow.holds Try.pinned (OpenSpec.upto fnExactIpOkSpec)

/-- 'laws.FnExactIpHeader', WHERE WHAT IT READS IS OF BULK AT MOST 1048576: true; the input reads as it did. -/
def fnExactIpHeaderUptoRow : OpenClaim := { program := "ytdlmplbhhgcffaa", sum := "2640433c45cafaaa87fc872f4bb682804c23870d52f76037fcf0f7e2f4c0b676", func := "loop.example/g03312/laws.FnExactIpHeader", spec := "fnExactIpHeader", apart := false, narrowed := true }
def FnExactIpHeaderUptoSaid : Prop := fnExactIpHeaderUptoRow.holds Try.pinned (OpenSpec.upto fnExactIpHeaderSpec)

/-- 'laws.FnExactBuildIp', WHERE WHAT IT READS IS OF BULK AT MOST 1048576: true; the input reads as it did. -/
def fnExactBuildIpUptoRow : OpenClaim := { program := "ytdlmplbhhgcffaa", sum := "2640433c45cafaaa87fc872f4bb682804c23870d52f76037fcf0f7e2f4c0b676", func := "loop.example/g03312/laws.FnExactBuildIp", spec := "fnExactBuildIp", apart := false, narrowed := true }
def FnExactBuildIpUptoSaid : Prop := fnExactBuildIpUptoRow.holds Try.pinned (OpenSpec.upto fnExactBuildIpSpec)

/-- 'laws.FnSegmentRound', WHERE WHAT IT READS IS OF BULK AT MOST 1048576: true; the input reads as it did. -/
def fnSegmentRoundUptoRow : OpenClaim := { program := "ytdlmplbhhgcffaa", sum := "2640433c45cafaaa87fc872f4bb682804c23870d52f76037fcf0f7e2f4c0b676", func := "loop.example/g03312/laws.FnSegmentRound", spec := "fnSegmentRound", apart := false, narrowed := true }
def FnSegmentRoundUptoSaid : Prop := fnSegmentRoundUptoRow.holds Try.pinned (OpenSpec.upto fnSegmentRoundSpec)

/-- 'laws.FnExactSegmentOk', WHERE WHAT IT READS IS OF BULK AT MOST 1048576: true; the input reads as it did. -/
def fnExactSegmentOkUptoRow : OpenClaim := { program := "ytdlmplbhhgcffaa", sum := "2640433c45cafaaa87fc872f4bb682804c23870d52f76037fcf0f7e2f4c0b676", func := "loop.example/g03312/laws.FnExactSegmentOk", spec := "fnExactSegmentOk", apart := false, narrowed := true }
def FnExactSegmentOkUptoSaid : Prop := fnExactSegmentOkUptoRow.holds Try.pinned (OpenSpec.upto fnExactSegmentOkSpec)

/-- 'laws.FnExactPseudoHeader', WHERE WHAT IT READS IS OF BULK AT MOST 1048576: true; the input reads as it did. -/
def fnExactPseudoHeaderUptoRow : OpenClaim := { program := "ytdlmplbhhgcffaa", sum := "2640433c45cafaaa87fc872f4bb682804c23870d52f76037fcf0f7e2f4c0b676", func := "loop.example/g03312/laws.FnExactPseudoHeader", spec := "fnExactPseudoHeader", apart := false, narrowed := true }
def FnExactPseudoHeaderUptoSaid : Prop := fnExactPseudoHeaderUptoRow.holds Try.pinned (OpenSpec.upto fnExactPseudoHeaderSpec)

/-- 'laws.FnExactBuildSegment', WHERE WHAT IT READS IS OF BULK AT MOST 1048576: true; the input reads as it did. -/
def fnExactBuildSegmentUptoRow : OpenClaim := { program := "ytdlmplbhhgcffaa", sum := "2640433c45cafaaa87fc872f4bb682804c23870d52f76037fcf0f7e2f4c0b676", func := "loop.example/g03312/laws.FnExactBuildSegment", spec := "fnExactBuildSegment", apart := false, narrowed := true }
def FnExactBuildSegmentUptoSaid : Prop := fnExactBuildSegmentUptoRow.holds Try.pinned (OpenSpec.upto fnExactBuildSegmentSpec)

/-- 'laws.FnExactParseSegment', WHERE WHAT IT READS IS OF BULK AT MOST 1048576: true; the input reads as it did. -/
def fnExactParseSegmentUptoRow : OpenClaim := { program := "ytdlmplbhhgcffaa", sum := "2640433c45cafaaa87fc872f4bb682804c23870d52f76037fcf0f7e2f4c0b676", func := "loop.example/g03312/laws.FnExactParseSegment", spec := "fnExactParseSegment", apart := false, narrowed := true }
def FnExactParseSegmentUptoSaid : Prop := fnExactParseSegmentUptoRow.holds Try.pinned (OpenSpec.upto fnExactParseSegmentSpec)

end Rows
end Go.Proofs.Ytdlmplbhhgcffaa
