/-
  No cell of these rows narrows 'for every input' (looked for: loops, veiled, ifaces, maps, wideKeys, modest, calm, conditions, laid).
  DERIVED. THE GIVEN ROWS OF THIS SEAT. 10 by the template 'for every input the law returns true; each argument reads behind the call as it read before'; 0 by the template 'total and deterministic' (their statements: YtkknfcnajgolfaaTotals.lean).
  GIVEN WITH THE SEED: the statements are not yours to turn. If you find one false, say at which input.
  Laid BY PROGRAM, IN A SANDBOX (cutbox-rows.mjs): the forced cells as the released guide's own fill.sh prints them over the translation abcaa86309e2bde9… (all of the seat's roots in one cut). By AI agents, Wed Nov 11 2026. No macro, syntax, notation, axiom, sorry.
-/
import Derived.Test.YtkknfcnajgolfaaChecked
import GoSem.Claim
import GoSem.ClaimJoined
import GoSem.ClaimMapViews
import Derived.JoinedTies
import Derived.KernelRfl
namespace Go.Proofs.Ytkknfcnajgolfaa
/- THE CELL 'sum', in the pinned program and in every row, IS THE sha256 OF THE DUMP (.gsa) THAT YtkknfcnajgolfaaProg.lean LOADS. Nothing in Lean hashes anything: it is a label: what it is worth is what the hold of that sum in a sandbox is worth. -/
noncomputable def Try.pinned : Pinned := { name := "ytkknfcnajgolfaa", sum := "abcaa86309e2bde969e88925c2c1558f0bf78c27cf3e32b768f50c29a1196cc1", checked := Try.checked }
namespace Rows
def none {H : Type} : Left H := { results := [], args := [] }

/-- 'laws.FnExactSuperOk': WHATEVER THE INPUT: true; the input reads as it did. -/
def fnExactSuperOkSpec : ChangeSpec := { name := "fnExactSuperOk", fn := fun _ => fun
  | [d] => { results := [.lit (.bool true)], args := [d] }
  | _ => none }
def fnExactSuperOkRow : OpenClaim := { program := "ytkknfcnajgolfaa", sum := "abcaa86309e2bde969e88925c2c1558f0bf78c27cf3e32b768f50c29a1196cc1", func := "loop.example/g03312/laws.FnExactSuperOk", spec := "fnExactSuperOk", apart := false }
def FnExactSuperOkSaid : Prop := fnExactSuperOkRow.holds Try.pinned (OpenSpec.ofChange fnExactSuperOkSpec)

/-- ITS FALSE NEIGHBOUR: 'it returns false'. Refute it at one input. -/
def fnExactSuperOkWrong : ChangeSpec := { name := "fnExactSuperOk", fn := fun _ => fun
  | [d] => { results := [.lit (.bool false)], args := [d] }
  | _ => none }
def FnExactSuperOkWrongFalsely : Prop := fnExactSuperOkRow.holds Try.pinned (OpenSpec.ofChange fnExactSuperOkWrong)

/-- 'laws.FnExactPacketOk': WHATEVER THE INPUT: true; the input reads as it did. -/
def fnExactPacketOkSpec : ChangeSpec := { name := "fnExactPacketOk", fn := fun _ => fun
  | [d] => { results := [.lit (.bool true)], args := [d] }
  | _ => none }
def fnExactPacketOkRow : OpenClaim := { program := "ytkknfcnajgolfaa", sum := "abcaa86309e2bde969e88925c2c1558f0bf78c27cf3e32b768f50c29a1196cc1", func := "loop.example/g03312/laws.FnExactPacketOk", spec := "fnExactPacketOk", apart := false }
def FnExactPacketOkSaid : Prop := fnExactPacketOkRow.holds Try.pinned (OpenSpec.ofChange fnExactPacketOkSpec)

/-- ITS FALSE NEIGHBOUR: 'it returns false'. Refute it at one input. -/
def fnExactPacketOkWrong : ChangeSpec := { name := "fnExactPacketOk", fn := fun _ => fun
  | [d] => { results := [.lit (.bool false)], args := [d] }
  | _ => none }
def FnExactPacketOkWrongFalsely : Prop := fnExactPacketOkRow.holds Try.pinned (OpenSpec.ofChange fnExactPacketOkWrong)

/-- 'laws.FnExactBuildImage': WHATEVER THE INPUT: true; the input reads as it did. -/
def fnExactBuildImageSpec : ChangeSpec := { name := "fnExactBuildImage", fn := fun _ => fun
  | [d] => { results := [.lit (.bool true)], args := [d] }
  | _ => none }
def fnExactBuildImageRow : OpenClaim := { program := "ytkknfcnajgolfaa", sum := "abcaa86309e2bde969e88925c2c1558f0bf78c27cf3e32b768f50c29a1196cc1", func := "loop.example/g03312/laws.FnExactBuildImage", spec := "fnExactBuildImage", inPlace := ["internal/abi.NoEscape", "internal/bytealg.MakeNoZero"], apart := false }
def FnExactBuildImageSaid : Prop := fnExactBuildImageRow.holds Try.pinned (OpenSpec.ofChange fnExactBuildImageSpec)

/-- ITS FALSE NEIGHBOUR: 'it returns false'. Refute it at one input. -/
def fnExactBuildImageWrong : ChangeSpec := { name := "fnExactBuildImage", fn := fun _ => fun
  | [d] => { results := [.lit (.bool false)], args := [d] }
  | _ => none }
def FnExactBuildImageWrongFalsely : Prop := fnExactBuildImageRow.holds Try.pinned (OpenSpec.ofChange fnExactBuildImageWrong)

/-- 'laws.FnExactBuildFrame': WHATEVER THE INPUT: true; the input reads as it did. -/
def fnExactBuildFrameSpec : ChangeSpec := { name := "fnExactBuildFrame", fn := fun _ => fun
  | [d] => { results := [.lit (.bool true)], args := [d] }
  | _ => none }
def fnExactBuildFrameRow : OpenClaim := { program := "ytkknfcnajgolfaa", sum := "abcaa86309e2bde969e88925c2c1558f0bf78c27cf3e32b768f50c29a1196cc1", func := "loop.example/g03312/laws.FnExactBuildFrame", spec := "fnExactBuildFrame", inPlace := ["internal/abi.NoEscape", "internal/bytealg.MakeNoZero"], apart := false }
def FnExactBuildFrameSaid : Prop := fnExactBuildFrameRow.holds Try.pinned (OpenSpec.ofChange fnExactBuildFrameSpec)

/-- ITS FALSE NEIGHBOUR: 'it returns false'. Refute it at one input. -/
def fnExactBuildFrameWrong : ChangeSpec := { name := "fnExactBuildFrame", fn := fun _ => fun
  | [d] => { results := [.lit (.bool false)], args := [d] }
  | _ => none }
def FnExactBuildFrameWrongFalsely : Prop := fnExactBuildFrameRow.holds Try.pinned (OpenSpec.ofChange fnExactBuildFrameWrong)

/-- 'laws.FnExactFlowOf': WHATEVER THE INPUT: true; the input reads as it did. -/
def fnExactFlowOfSpec : ChangeSpec := { name := "fnExactFlowOf", fn := fun _ => fun
  | [d] => { results := [.lit (.bool true)], args := [d] }
  | _ => none }
def fnExactFlowOfRow : OpenClaim := { program := "ytkknfcnajgolfaa", sum := "abcaa86309e2bde969e88925c2c1558f0bf78c27cf3e32b768f50c29a1196cc1", func := "loop.example/g03312/laws.FnExactFlowOf", spec := "fnExactFlowOf", apart := false }
def FnExactFlowOfSaid : Prop := fnExactFlowOfRow.holds Try.pinned (OpenSpec.ofChange fnExactFlowOfSpec)

/-- ITS FALSE NEIGHBOUR: 'it returns false'. Refute it at one input. -/
def fnExactFlowOfWrong : ChangeSpec := { name := "fnExactFlowOf", fn := fun _ => fun
  | [d] => { results := [.lit (.bool false)], args := [d] }
  | _ => none }
def FnExactFlowOfWrongFalsely : Prop := fnExactFlowOfRow.holds Try.pinned (OpenSpec.ofChange fnExactFlowOfWrong)

/-- 'laws.FnExactSamePath': WHATEVER THE INPUT: true; the input reads as it did. -/
def fnExactSamePathSpec : ChangeSpec := { name := "fnExactSamePath", fn := fun _ => fun
  | [d1, d2] => { results := [.lit (.bool true)], args := [d1, d2] }
  | _ => none }
def fnExactSamePathRow : OpenClaim := { program := "ytkknfcnajgolfaa", sum := "abcaa86309e2bde969e88925c2c1558f0bf78c27cf3e32b768f50c29a1196cc1", func := "loop.example/g03312/laws.FnExactSamePath", spec := "fnExactSamePath", apart := false }
def FnExactSamePathSaid : Prop := fnExactSamePathRow.holds Try.pinned (OpenSpec.ofChange fnExactSamePathSpec)

/-- ITS FALSE NEIGHBOUR: 'it returns false'. Refute it at one input. -/
def fnExactSamePathWrong : ChangeSpec := { name := "fnExactSamePath", fn := fun _ => fun
  | [d1, d2] => { results := [.lit (.bool false)], args := [d1, d2] }
  | _ => none }
def FnExactSamePathWrongFalsely : Prop := fnExactSamePathRow.holds Try.pinned (OpenSpec.ofChange fnExactSamePathWrong)

/-- 'laws.FnExactSplitCount': WHATEVER THE INPUT: true; the input reads as it did. -/
def fnExactSplitCountSpec : ChangeSpec := { name := "fnExactSplitCount", fn := fun _ => fun
  | [d1, d2] => { results := [.lit (.bool true)], args := [d1, d2] }
  | _ => none }
def fnExactSplitCountRow : OpenClaim := { program := "ytkknfcnajgolfaa", sum := "abcaa86309e2bde969e88925c2c1558f0bf78c27cf3e32b768f50c29a1196cc1", func := "loop.example/g03312/laws.FnExactSplitCount", spec := "fnExactSplitCount", apart := false }
def FnExactSplitCountSaid : Prop := fnExactSplitCountRow.holds Try.pinned (OpenSpec.ofChange fnExactSplitCountSpec)

/-- ITS FALSE NEIGHBOUR: 'it returns false'. Refute it at one input. -/
def fnExactSplitCountWrong : ChangeSpec := { name := "fnExactSplitCount", fn := fun _ => fun
  | [d1, d2] => { results := [.lit (.bool false)], args := [d1, d2] }
  | _ => none }
def FnExactSplitCountWrongFalsely : Prop := fnExactSplitCountRow.holds Try.pinned (OpenSpec.ofChange fnExactSplitCountWrong)

/-- 'laws.FnExactSingle': WHATEVER THE INPUT: true; the input reads as it did. -/
def fnExactSingleSpec : ChangeSpec := { name := "fnExactSingle", fn := fun _ => fun
  | [d] => { results := [.lit (.bool true)], args := [d] }
  | _ => none }
def fnExactSingleRow : OpenClaim := { program := "ytkknfcnajgolfaa", sum := "abcaa86309e2bde969e88925c2c1558f0bf78c27cf3e32b768f50c29a1196cc1", func := "loop.example/g03312/laws.FnExactSingle", spec := "fnExactSingle", apart := false }
def FnExactSingleSaid : Prop := fnExactSingleRow.holds Try.pinned (OpenSpec.ofChange fnExactSingleSpec)

/-- ITS FALSE NEIGHBOUR: 'it returns false'. Refute it at one input. -/
def fnExactSingleWrong : ChangeSpec := { name := "fnExactSingle", fn := fun _ => fun
  | [d] => { results := [.lit (.bool false)], args := [d] }
  | _ => none }
def FnExactSingleWrongFalsely : Prop := fnExactSingleRow.holds Try.pinned (OpenSpec.ofChange fnExactSingleWrong)

/-- 'laws.FnExactCanJoin': WHATEVER THE INPUT: true; the input reads as it did. -/
def fnExactCanJoinSpec : ChangeSpec := { name := "fnExactCanJoin", fn := fun _ => fun
  | [d1, d2] => { results := [.lit (.bool true)], args := [d1, d2] }
  | _ => none }
def fnExactCanJoinRow : OpenClaim := { program := "ytkknfcnajgolfaa", sum := "abcaa86309e2bde969e88925c2c1558f0bf78c27cf3e32b768f50c29a1196cc1", func := "loop.example/g03312/laws.FnExactCanJoin", spec := "fnExactCanJoin", apart := false }
def FnExactCanJoinSaid : Prop := fnExactCanJoinRow.holds Try.pinned (OpenSpec.ofChange fnExactCanJoinSpec)

/-- ITS FALSE NEIGHBOUR: 'it returns false'. Refute it at one input. -/
def fnExactCanJoinWrong : ChangeSpec := { name := "fnExactCanJoin", fn := fun _ => fun
  | [d1, d2] => { results := [.lit (.bool false)], args := [d1, d2] }
  | _ => none }
def FnExactCanJoinWrongFalsely : Prop := fnExactCanJoinRow.holds Try.pinned (OpenSpec.ofChange fnExactCanJoinWrong)

/-- 'laws.FnExactJoin': WHATEVER THE INPUT: true; the input reads as it did. -/
def fnExactJoinSpec : ChangeSpec := { name := "fnExactJoin", fn := fun _ => fun
  | [d1, d2] => { results := [.lit (.bool true)], args := [d1, d2] }
  | _ => none }
def fnExactJoinRow : OpenClaim := { program := "ytkknfcnajgolfaa", sum := "abcaa86309e2bde969e88925c2c1558f0bf78c27cf3e32b768f50c29a1196cc1", func := "loop.example/g03312/laws.FnExactJoin", spec := "fnExactJoin", apart := false }
def FnExactJoinSaid : Prop := fnExactJoinRow.holds Try.pinned (OpenSpec.ofChange fnExactJoinSpec)

/-- ITS FALSE NEIGHBOUR: 'it returns false'. Refute it at one input. -/
def fnExactJoinWrong : ChangeSpec := { name := "fnExactJoin", fn := fun _ => fun
  | [d1, d2] => { results := [.lit (.bool false)], args := [d1, d2] }
  | _ => none }
def FnExactJoinWrongFalsely : Prop := fnExactJoinRow.holds Try.pinned (OpenSpec.ofChange fnExactJoinWrong)

/- THE SECOND FORM. 'bulk': how many values and letters a reading holds, each counted each time it is reached (what is shared counts as often as it is met; a slice's spare places count too). A statement '..UptoSaid' is the law's where the arguments, and the package variables that the reading takes, are together of bulk at most 1048576: NARROWER than '..Said'. Prove '..Said' where nothing that the law and all that it calls make is longer than what came in: it says more and counts as full. Else prove '..UptoSaid'. A law counts once. -/
mutual
def uptoBulk {H : Type} : DataW H → Nat
  | .lit (.string bytes) => bytes.length + 1
  | .lit _ => 1
  | .nil => 1
  | .ptr d => uptoBulk d + 1
  | .slice elems spare => uptoBulkAll elems + uptoBulkAll spare + 1
  | .agg parts => uptoBulkAll parts + 1
  | .iface _ d => uptoBulk d + 1
  | .map entries => uptoBulkEntries entries + 1
  | .held _ => 1
def uptoBulkAll {H : Type} : List (DataW H) → Nat
  | [] => 0
  | d :: r => uptoBulk d + uptoBulkAll r
def uptoBulkEntries {H : Type} : List (Lit × DataW H) → Nat
  | [] => 0
  | x :: r => uptoBulkEntry x + uptoBulkEntries r
def uptoBulkEntry {H : Type} : Lit × DataW H → Nat
  | (.string bytes, d) => bytes.length + uptoBulk d + 1
  | (_, d) => uptoBulk d + 1
 end
def uptoSmall : (H : Type) → List (DataW H) → Bool := fun _ ds => decide (uptoBulkAll ds ≤ 1048576)
def OpenSpec.upto (s : _root_.Go.ChangeSpec) : _root_.Go.OpenSpec := { _root_.Go.OpenSpec.ofChange s with cond := some uptoSmall }

/-- 'laws.FnExactSuperOk', WHERE WHAT IT READS IS OF BULK AT MOST 1048576: true; the input reads as it did. -/
def fnExactSuperOkUptoRow : OpenClaim := { program := "ytkknfcnajgolfaa", sum := "abcaa86309e2bde969e88925c2c1558f0bf78c27cf3e32b768f50c29a1196cc1", func := "loop.example/g03312/laws.FnExactSuperOk", spec := "fnExactSuperOk", apart := false, narrowed := true }
def FnExactSuperOkUptoSaid : Prop := fnExactSuperOkUptoRow.holds Try.pinned (OpenSpec.upto fnExactSuperOkSpec)

/-- 'laws.FnExactPacketOk', WHERE WHAT IT READS IS OF BULK AT MOST 1048576: true; the input reads as it did. -/
def fnExactPacketOkUptoRow : OpenClaim := { program := "ytkknfcnajgolfaa", sum := "abcaa86309e2bde969e88925c2c1558f0bf78c27cf3e32b768f50c29a1196cc1", func := "loop.example/g03312/laws.FnExactPacketOk", spec := "fnExactPacketOk", apart := false, narrowed := true }
def FnExactPacketOkUptoSaid : Prop := fnExactPacketOkUptoRow.holds Try.pinned (OpenSpec.upto fnExactPacketOkSpec)

/-- 'laws.FnExactBuildImage', WHERE WHAT IT READS IS OF BULK AT MOST 1048576: true; the input reads as it did. -/
def fnExactBuildImageUptoRow : OpenClaim := { program := "ytkknfcnajgolfaa", sum := "abcaa86309e2bde969e88925c2c1558f0bf78c27cf3e32b768f50c29a1196cc1", func := "loop.example/g03312/laws.FnExactBuildImage", spec := "fnExactBuildImage", inPlace := ["internal/abi.NoEscape", "internal/bytealg.MakeNoZero"], apart := false, narrowed := true }
def FnExactBuildImageUptoSaid : Prop := fnExactBuildImageUptoRow.holds Try.pinned (OpenSpec.upto fnExactBuildImageSpec)

/-- 'laws.FnExactBuildFrame', WHERE WHAT IT READS IS OF BULK AT MOST 1048576: true; the input reads as it did. -/
def fnExactBuildFrameUptoRow : OpenClaim := { program := "ytkknfcnajgolfaa", sum := "abcaa86309e2bde969e88925c2c1558f0bf78c27cf3e32b768f50c29a1196cc1", func := "loop.example/g03312/laws.FnExactBuildFrame", spec := "fnExactBuildFrame", inPlace := ["internal/abi.NoEscape", "internal/bytealg.MakeNoZero"], apart := false, narrowed := true }
def FnExactBuildFrameUptoSaid : Prop := fnExactBuildFrameUptoRow.holds Try.pinned (OpenSpec.upto fnExactBuildFrameSpec)

/-- 'laws.FnExactFlowOf', WHERE WHAT IT READS IS OF BULK AT MOST 1048576: true; the input reads as it did. -/
def fnExactFlowOfUptoRow : OpenClaim := { program := "ytkknfcnajgolfaa", sum := "abcaa86309e2bde969e88925c2c1558f0bf78c27cf3e32b768f50c29a1196cc1", func := "loop.example/g03312/laws.FnExactFlowOf", spec := "fnExactFlowOf", apart := false, narrowed := true }
def FnExactFlowOfUptoSaid : Prop := fnExactFlowOfUptoRow.holds Try.pinned (OpenSpec.upto fnExactFlowOfSpec)

/-- 'laws.FnExactSamePath', WHERE WHAT IT READS IS OF BULK AT MOST 1048576: true; the input reads as it did. -/
def fnExactSamePathUptoRow : OpenClaim := { program := "ytkknfcnajgolfaa", sum := "abcaa86309e2bde969e88925c2c1558f0bf78c27cf3e32b768f50c29a1196cc1", func := "loop.example/g03312/laws.FnExactSamePath", spec := "fnExactSamePath", apart := false, narrowed := true }
def FnExactSamePathUptoSaid : Prop := fnExactSamePathUptoRow.holds Try.pinned (OpenSpec.upto fnExactSamePathSpec)

/-- 'laws.FnExactSplitCount', WHERE WHAT IT READS IS OF BULK AT MOST 1048576: true; the input reads as it did. -/
def fnExactSplitCountUptoRow : OpenClaim := { program := "ytkknfcnajgolfaa", sum := "abcaa86309e2bde969e88925c2c1558f0bf78c27cf3e32b768f50c29a1196cc1", func := "loop.example/g03312/laws.FnExactSplitCount", spec := "fnExactSplitCount", apart := false, narrowed := true }
def FnExactSplitCountUptoSaid : Prop := fnExactSplitCountUptoRow.holds Try.pinned (OpenSpec.upto fnExactSplitCountSpec)

/-- 'laws.FnExactSingle', WHERE WHAT IT READS IS OF BULK AT MOST 1048576: true; the input reads as it did. -/
def fnExactSingleUptoRow : OpenClaim := { program := "ytkknfcnajgolfaa", sum := "abcaa86309e2bde969e88925c2c1558f0bf78c27cf3e32b768f50c29a1196cc1", func := "loop.example/g03312/laws.FnExactSingle", spec := "fnExactSingle", apart := false, narrowed := true }
def FnExactSingleUptoSaid : Prop := fnExactSingleUptoRow.holds Try.pinned (OpenSpec.upto fnExactSingleSpec)

/-- 'laws.FnExactCanJoin', WHERE WHAT IT READS IS OF BULK AT MOST 1048576: true; the input reads as it did. -/
def fnExactCanJoinUptoRow : OpenClaim := { program := "ytkknfcnajgolfaa", sum := "abcaa86309e2bde969e88925c2c1558f0bf78c27cf3e32b768f50c29a1196cc1", func := "loop.example/g03312/laws.FnExactCanJoin", spec := "fnExactCanJoin", apart := false, narrowed := true }
def FnExactCanJoinUptoSaid : Prop := fnExactCanJoinUptoRow.holds Try.pinned (OpenSpec.upto fnExactCanJoinSpec)

/-- 'laws.FnExactJoin', WHERE WHAT IT READS IS OF BULK AT MOST 1048576: true; the input reads as it did. -/
def fnExactJoinUptoRow : OpenClaim := { program := "ytkknfcnajgolfaa", sum := "abcaa86309e2bde969e88925c2c1558f0bf78c27cf3e32b768f50c29a1196cc1", func := "loop.example/g03312/laws.FnExactJoin", spec := "fnExactJoin", apart := false, narrowed := true }
def FnExactJoinUptoSaid : Prop := fnExactJoinUptoRow.holds Try.pinned (OpenSpec.upto fnExactJoinSpec)

end Rows
end Go.Proofs.Ytkknfcnajgolfaa
