/-
  No cell of these rows narrows 'for every input' (looked for: loops, veiled, ifaces, maps, wideKeys, modest, calm, conditions, laid).
  DERIVED. THE GIVEN ROWS OF THIS SEAT. 9 by the template 'for every input the law returns true; each argument reads behind the call as it read before'; 0 by the template 'total and deterministic' (their statements: YtioejbgdhmiiiaaTotals.lean).
  GIVEN WITH THE SEED: the statements are not yours to turn. If you find one false, say at which input.
  Laid BY PROGRAM, IN A SANDBOX (cutbox-rows.mjs): the forced cells as the released guide's own fill.sh prints them over the translation ee8895a9b82925d5… (all of the seat's roots in one cut). By AI agents, Wed Nov 11 2026. No macro, syntax, notation, axiom, sorry.
-/
import Derived.Test.YtioejbgdhmiiiaaChecked
import GoSem.Claim
import GoSem.ClaimJoined
import GoSem.ClaimMapViews
import Derived.JoinedTies
import Derived.KernelRfl
namespace Go.Proofs.Ytioejbgdhmiiiaa
/- THE CELL 'sum', in the pinned program and in every row, IS THE sha256 OF THE DUMP (.gsa) THAT YtioejbgdhmiiiaaProg.lean LOADS. Nothing in Lean hashes anything: it is a label: what it is worth is what the hold of that sum in a sandbox is worth. -/
noncomputable def Try.pinned : Pinned := { name := "ytioejbgdhmiiiaa", sum := "ee8895a9b82925d5566a1e42953715f60c51d67972d70afbd358cc185a1bc3d6", checked := Try.checked }
namespace Rows
def none {H : Type} : Left H := { results := [], args := [] }

/-- 'laws.FnExactParseEth': WHATEVER THE INPUT: true; the input reads as it did. -/
def fnExactParseEthSpec : ChangeSpec := { name := "fnExactParseEth", fn := fun _ => fun
  | [d] => { results := [.lit (.bool true)], args := [d] }
  | _ => none }
def fnExactParseEthRow : OpenClaim := { program := "ytioejbgdhmiiiaa", sum := "ee8895a9b82925d5566a1e42953715f60c51d67972d70afbd358cc185a1bc3d6", func := "loop.example/g03312/laws.FnExactParseEth", spec := "fnExactParseEth", apart := false }
def FnExactParseEthSaid : Prop := fnExactParseEthRow.holds Try.pinned (OpenSpec.ofChange fnExactParseEthSpec)

/-- ITS FALSE NEIGHBOUR: 'it returns false'. Refute it at one input. -/
def fnExactParseEthWrong : ChangeSpec := { name := "fnExactParseEth", fn := fun _ => fun
  | [d] => { results := [.lit (.bool false)], args := [d] }
  | _ => none }
def FnExactParseEthWrongFalsely : Prop := fnExactParseEthRow.holds Try.pinned (OpenSpec.ofChange fnExactParseEthWrong)

/-- 'laws.FnExactInsertTag': WHATEVER THE INPUT: true; the input reads as it did. -/
def fnExactInsertTagSpec : ChangeSpec := { name := "fnExactInsertTag", fn := fun _ => fun
  | [d1, d2] => { results := [.lit (.bool true)], args := [d1, d2] }
  | _ => none }
def fnExactInsertTagRow : OpenClaim := { program := "ytioejbgdhmiiiaa", sum := "ee8895a9b82925d5566a1e42953715f60c51d67972d70afbd358cc185a1bc3d6", func := "loop.example/g03312/laws.FnExactInsertTag", spec := "fnExactInsertTag", apart := false }
def FnExactInsertTagSaid : Prop := fnExactInsertTagRow.holds Try.pinned (OpenSpec.ofChange fnExactInsertTagSpec)

/-- ITS FALSE NEIGHBOUR: 'it returns false'. Refute it at one input. -/
def fnExactInsertTagWrong : ChangeSpec := { name := "fnExactInsertTag", fn := fun _ => fun
  | [d1, d2] => { results := [.lit (.bool false)], args := [d1, d2] }
  | _ => none }
def FnExactInsertTagWrongFalsely : Prop := fnExactInsertTagRow.holds Try.pinned (OpenSpec.ofChange fnExactInsertTagWrong)

/-- 'laws.FnExactStripTag': WHATEVER THE INPUT: true; the input reads as it did. -/
def fnExactStripTagSpec : ChangeSpec := { name := "fnExactStripTag", fn := fun _ => fun
  | [d] => { results := [.lit (.bool true)], args := [d] }
  | _ => none }
def fnExactStripTagRow : OpenClaim := { program := "ytioejbgdhmiiiaa", sum := "ee8895a9b82925d5566a1e42953715f60c51d67972d70afbd358cc185a1bc3d6", func := "loop.example/g03312/laws.FnExactStripTag", spec := "fnExactStripTag", apart := false }
def FnExactStripTagSaid : Prop := fnExactStripTagRow.holds Try.pinned (OpenSpec.ofChange fnExactStripTagSpec)

/-- ITS FALSE NEIGHBOUR: 'it returns false'. Refute it at one input. -/
def fnExactStripTagWrong : ChangeSpec := { name := "fnExactStripTag", fn := fun _ => fun
  | [d] => { results := [.lit (.bool false)], args := [d] }
  | _ => none }
def FnExactStripTagWrongFalsely : Prop := fnExactStripTagRow.holds Try.pinned (OpenSpec.ofChange fnExactStripTagWrong)

/-- 'laws.FnExactCanJoin': WHATEVER THE INPUT: true; the input reads as it did. -/
def fnExactCanJoinSpec : ChangeSpec := { name := "fnExactCanJoin", fn := fun _ => fun
  | [d1, d2] => { results := [.lit (.bool true)], args := [d1, d2] }
  | _ => none }
def fnExactCanJoinRow : OpenClaim := { program := "ytioejbgdhmiiiaa", sum := "ee8895a9b82925d5566a1e42953715f60c51d67972d70afbd358cc185a1bc3d6", func := "loop.example/g03312/laws.FnExactCanJoin", spec := "fnExactCanJoin", apart := false }
def FnExactCanJoinSaid : Prop := fnExactCanJoinRow.holds Try.pinned (OpenSpec.ofChange fnExactCanJoinSpec)

/-- ITS FALSE NEIGHBOUR: 'it returns false'. Refute it at one input. -/
def fnExactCanJoinWrong : ChangeSpec := { name := "fnExactCanJoin", fn := fun _ => fun
  | [d1, d2] => { results := [.lit (.bool false)], args := [d1, d2] }
  | _ => none }
def FnExactCanJoinWrongFalsely : Prop := fnExactCanJoinRow.holds Try.pinned (OpenSpec.ofChange fnExactCanJoinWrong)

/-- 'laws.FnExactJoin': WHATEVER THE INPUT: true; the input reads as it did. -/
def fnExactJoinSpec : ChangeSpec := { name := "fnExactJoin", fn := fun _ => fun
  | [d1, d2] => { results := [.lit (.bool true)], args := [d1, d2] }
  | _ => none }
def fnExactJoinRow : OpenClaim := { program := "ytioejbgdhmiiiaa", sum := "ee8895a9b82925d5566a1e42953715f60c51d67972d70afbd358cc185a1bc3d6", func := "loop.example/g03312/laws.FnExactJoin", spec := "fnExactJoin", apart := false }
def FnExactJoinSaid : Prop := fnExactJoinRow.holds Try.pinned (OpenSpec.ofChange fnExactJoinSpec)

/-- ITS FALSE NEIGHBOUR: 'it returns false'. Refute it at one input. -/
def fnExactJoinWrong : ChangeSpec := { name := "fnExactJoin", fn := fun _ => fun
  | [d1, d2] => { results := [.lit (.bool false)], args := [d1, d2] }
  | _ => none }
def FnExactJoinWrongFalsely : Prop := fnExactJoinRow.holds Try.pinned (OpenSpec.ofChange fnExactJoinWrong)

/-- 'laws.FnExactTemplate': WHATEVER THE INPUT: true; the input reads as it did. -/
def fnExactTemplateSpec : ChangeSpec := { name := "fnExactTemplate", fn := fun _ => fun
  | [d] => { results := [.lit (.bool true)], args := [d] }
  | _ => none }
def fnExactTemplateRow : OpenClaim := { program := "ytioejbgdhmiiiaa", sum := "ee8895a9b82925d5566a1e42953715f60c51d67972d70afbd358cc185a1bc3d6", func := "loop.example/g03312/laws.FnExactTemplate", spec := "fnExactTemplate", inPlace := ["internal/abi.NoEscape", "internal/bytealg.MakeNoZero"], apart := false }
def FnExactTemplateSaid : Prop := fnExactTemplateRow.holds Try.pinned (OpenSpec.ofChange fnExactTemplateSpec)

/-- ITS FALSE NEIGHBOUR: 'it returns false'. Refute it at one input. -/
def fnExactTemplateWrong : ChangeSpec := { name := "fnExactTemplate", fn := fun _ => fun
  | [d] => { results := [.lit (.bool false)], args := [d] }
  | _ => none }
def FnExactTemplateWrongFalsely : Prop := fnExactTemplateRow.holds Try.pinned (OpenSpec.ofChange fnExactTemplateWrong)

/-- 'laws.FnExactParseSegment': WHATEVER THE INPUT: true; the input reads as it did. -/
def fnExactParseSegmentSpec : ChangeSpec := { name := "fnExactParseSegment", fn := fun _ => fun
  | [d1, d2, d3, d4] => { results := [.lit (.bool true)], args := [d1, d2, d3, d4] }
  | _ => none }
def fnExactParseSegmentRow : OpenClaim := { program := "ytioejbgdhmiiiaa", sum := "ee8895a9b82925d5566a1e42953715f60c51d67972d70afbd358cc185a1bc3d6", func := "loop.example/g03312/laws.FnExactParseSegment", spec := "fnExactParseSegment", apart := false }
def FnExactParseSegmentSaid : Prop := fnExactParseSegmentRow.holds Try.pinned (OpenSpec.ofChange fnExactParseSegmentSpec)

/-- ITS FALSE NEIGHBOUR: 'it returns false'. Refute it at one input. -/
def fnExactParseSegmentWrong : ChangeSpec := { name := "fnExactParseSegment", fn := fun _ => fun
  | [d1, d2, d3, d4] => { results := [.lit (.bool false)], args := [d1, d2, d3, d4] }
  | _ => none }
def FnExactParseSegmentWrongFalsely : Prop := fnExactParseSegmentRow.holds Try.pinned (OpenSpec.ofChange fnExactParseSegmentWrong)

/-- 'laws.FnEthRound': WHATEVER THE INPUT: true; the input reads as it did. -/
def fnEthRoundSpec : ChangeSpec := { name := "fnEthRound", fn := fun _ => fun
  | [d] => { results := [.lit (.bool true)], args := [d] }
  | _ => none }
def fnEthRoundRow : OpenClaim := { program := "ytioejbgdhmiiiaa", sum := "ee8895a9b82925d5566a1e42953715f60c51d67972d70afbd358cc185a1bc3d6", func := "loop.example/g03312/laws.FnEthRound", spec := "fnEthRound", apart := false }
def FnEthRoundSaid : Prop := fnEthRoundRow.holds Try.pinned (OpenSpec.ofChange fnEthRoundSpec)

/-- ITS FALSE NEIGHBOUR: 'it returns false'. Refute it at one input. -/
def fnEthRoundWrong : ChangeSpec := { name := "fnEthRound", fn := fun _ => fun
  | [d] => { results := [.lit (.bool false)], args := [d] }
  | _ => none }
def FnEthRoundWrongFalsely : Prop := fnEthRoundRow.holds Try.pinned (OpenSpec.ofChange fnEthRoundWrong)

/-- 'laws.FnSegmentRound': WHATEVER THE INPUT: true; the input reads as it did. -/
def fnSegmentRoundSpec : ChangeSpec := { name := "fnSegmentRound", fn := fun _ => fun
  | [d] => { results := [.lit (.bool true)], args := [d] }
  | _ => none }
def fnSegmentRoundRow : OpenClaim := { program := "ytioejbgdhmiiiaa", sum := "ee8895a9b82925d5566a1e42953715f60c51d67972d70afbd358cc185a1bc3d6", func := "loop.example/g03312/laws.FnSegmentRound", spec := "fnSegmentRound", apart := false }
def FnSegmentRoundSaid : Prop := fnSegmentRoundRow.holds Try.pinned (OpenSpec.ofChange fnSegmentRoundSpec)

/-- ITS FALSE NEIGHBOUR: 'it returns false'. Refute it at one input. -/
def fnSegmentRoundWrong : ChangeSpec := { name := "fnSegmentRound", fn := fun _ => fun
  | [d] => { results := [.lit (.bool false)], args := [d] }
  | _ => none }
def FnSegmentRoundWrongFalsely : Prop := fnSegmentRoundRow.holds Try.pinned (OpenSpec.ofChange fnSegmentRoundWrong)

/- THE SECOND FORM. 'bulk': how many values and letters a reading holds, each counted each time it is reached (what is shared counts as often as it is met; a slice's spare places count too). A statement '..UptoSaid' is the law's where the arguments, and the package variables that the reading takes, are together of bulk at most 1048576: NARROWER than '..Said'. Prove '..Said' where nothing that the law and all that it calls make is longer than what came in: it says more and counts as full. Else prove '..UptoSaid'. A law counts once. -/
mutual
def uptoBulk {H : Type} : DataW H → Nat
  | .lit (.string bytes) => bytes.length + 1
  | .lit _ => 1
  | .nil => 1
  | .ptr d => uptoBulk d + 1
  | .slice elems spare => uptoBulkAll elems + uptoBulkAll spare + 1
  | .agg parts => uptoBulkAll parts + 1
  | .iface _ d => uptoBulk d + 1
  | .map entries => uptoBulkEntries entries + 1
  | .held _ => 1
def uptoBulkAll {H : Type} : List (DataW H) → Nat
  | [] => 0
  | d :: r => uptoBulk d + uptoBulkAll r
def uptoBulkEntries {H : Type} : List (Lit × DataW H) → Nat
  | [] => 0
  | x :: r => uptoBulkEntry x + uptoBulkEntries r
def uptoBulkEntry {H : Type} : Lit × DataW H → Nat
  | (.string bytes, d) => bytes.length + uptoBulk d + 1
  | (_, d) => uptoBulk d + 1
 end
def uptoSmall : (H : Type) → List (DataW H) → Bool := fun _ ds => decide (uptoBulkAll ds ≤ 1048576)
def OpenSpec.upto (s : _root_.Go.ChangeSpec) : _root_.Go.OpenSpec := { _root_.Go.OpenSpec.ofChange s with cond := some uptoSmall }

/-- 'laws.FnExactParseEth', WHERE WHAT IT READS IS OF BULK AT MOST 1048576: true; the input reads as it did. -/
def fnExactParseEthUptoRow : OpenClaim := { program := "ytioejbgdhmiiiaa", sum := "ee8895a9b82925d5566a1e42953715f60c51d67972d70afbd358cc185a1bc3d6", func := "loop.example/g03312/laws.FnExactParseEth", spec := "fnExactParseEth", apart := false, narrowed := true }
def FnExactParseEthUptoSaid : Prop := fnExactParseEthUptoRow.holds Try.pinned (OpenSpec.upto fnExactParseEthSpec)

/-- 'laws.FnExactInsertTag', WHERE WHAT IT READS IS OF BULK AT MOST 1048576: true; the input reads as it did. -/
def fnExactInsertTagUptoRow : OpenClaim := { program := "ytioejbgdhmiiiaa", sum := "ee8895a9b82925d5566a1e42953715f60c51d67972d70afbd358cc185a1bc3d6", func := "loop.example/g03312/laws.FnExactInsertTag", spec := "fnExactInsertTag", apart := false, narrowed := true }
def FnExactInsertTagUptoSaid : Prop := fnExactInsertTagUptoRow.holds Try.pinned (OpenSpec.upto fnExactInsertTagSpec)

/-- 'laws.FnExactStripTag', WHERE WHAT IT READS IS OF BULK AT MOST 1048576: true; the input reads as it did. -/
def fnExactStripTagUptoRow : OpenClaim := { program := "ytioejbgdhmiiiaa", sum := "ee8895a9b82925d5566a1e42953715f60c51d67972d70afbd358cc185a1bc3d6", func := "loop.example/g03312/laws.FnExactStripTag", spec := "fnExactStripTag", apart := false, narrowed := true }
def FnExactStripTagUptoSaid : Prop := fnExactStripTagUptoRow.holds Try.pinned (OpenSpec.upto fnExactStripTagSpec)

/-- 'laws.FnExactCanJoin', WHERE WHAT IT READS IS OF BULK AT MOST 1048576: true; the input reads as it did. -/
def fnExactCanJoinUptoRow : OpenClaim := { program := "ytioejbgdhmiiiaa", sum := "ee8895a9b82925d5566a1e42953715f60c51d67972d70afbd358cc185a1bc3d6", func := "loop.example/g03312/laws.FnExactCanJoin", spec := "fnExactCanJoin", apart := false, narrowed := true }
def FnExactCanJoinUptoSaid : Prop := fnExactCanJoinUptoRow.holds Try.pinned (OpenSpec.upto fnExactCanJoinSpec)

/-- 'laws.FnExactJoin', WHERE WHAT IT READS IS OF BULK AT MOST 1048576: true; the input reads as it did. -/
def fnExactJoinUptoRow : OpenClaim := { program := "ytioejbgdhmiiiaa", sum := "ee8895a9b82925d5566a1e42953715f60c51d67972d70afbd358cc185a1bc3d6", func := "loop.example/g03312/laws.FnExactJoin", spec := "fnExactJoin", apart := false, narrowed := true }
def FnExactJoinUptoSaid : Prop := fnExactJoinUptoRow.holds Try.pinned (OpenSpec.upto fnExactJoinSpec)

/-- 'laws.FnExactTemplate', WHERE WHAT IT READS IS OF BULK AT MOST 1048576: true; the input reads as it did. -/
def fnExactTemplateUptoRow : OpenClaim := { program := "ytioejbgdhmiiiaa", sum := "ee8895a9b82925d5566a1e42953715f60c51d67972d70afbd358cc185a1bc3d6", func := "loop.example/g03312/laws.FnExactTemplate", spec := "fnExactTemplate", inPlace := ["internal/abi.NoEscape", "internal/bytealg.MakeNoZero"], apart := false, narrowed := true }
def FnExactTemplateUptoSaid : Prop := fnExactTemplateUptoRow.holds Try.pinned (OpenSpec.upto fnExactTemplateSpec)

/-- 'laws.FnExactParseSegment', WHERE WHAT IT READS IS OF BULK AT MOST 1048576: true; the input reads as it did. -/
def fnExactParseSegmentUptoRow : OpenClaim := { program := "ytioejbgdhmiiiaa", sum := "ee8895a9b82925d5566a1e42953715f60c51d67972d70afbd358cc185a1bc3d6", func := "loop.example/g03312/laws.FnExactParseSegment", spec := "fnExactParseSegment", apart := false, narrowed := true }
def FnExactParseSegmentUptoSaid : Prop := fnExactParseSegmentUptoRow.holds Try.pinned (OpenSpec.upto fnExactParseSegmentSpec)

/-- 'laws.FnEthRound', WHERE WHAT IT READS IS OF BULK AT MOST 1048576: true; the input reads as it did. -/
def fnEthRoundUptoRow : OpenClaim := { program := "ytioejbgdhmiiiaa", sum := "ee8895a9b82925d5566a1e42953715f60c51d67972d70afbd358cc185a1bc3d6", func := "loop.example/g03312/laws.FnEthRound", spec := "fnEthRound", apart := false, narrowed := true }
def FnEthRoundUptoSaid : Prop := fnEthRoundUptoRow.holds Try.pinned (OpenSpec.upto fnEthRoundSpec)

/-- 'laws.FnSegmentRound', WHERE WHAT IT READS IS OF BULK AT MOST 1048576: true; the input reads as it did. -/
def fnSegmentRoundUptoRow : OpenClaim := { program := "ytioejbgdhmiiiaa", sum := "ee8895a9b82925d5566a1e42953715f60c51d67972d70afbd358cc185a1bc3d6", func := "loop.example/g03312/laws.FnSegmentRound", spec := "fnSegmentRound", apart := false, narrowed := true }
def FnSegmentRoundUptoSaid : Prop := fnSegmentRoundUptoRow.holds Try.pinned (OpenSpec.upto fnSegmentRoundSpec)

end Rows
end Go.Proofs.Ytioejbgdhmiiiaa
