/-
  No cell of these rows narrows 'for every input' (looked for: loops, veiled, ifaces, maps, wideKeys, modest, calm, conditions, laid).
  DERIVED. THE GIVEN ROWS OF THIS SEAT. 11 by the template 'for every input the law returns true; each argument reads behind the call as it read before'; 0 by the template 'total and deterministic' (their statements: YtbidaccdjnbhfaaTotals.lean).
  GIVEN WITH THE SEED: the statements are not yours to turn. If you find one false, say at which input.
  Laid BY PROGRAM, IN A SANDBOX (cutbox-rows.mjs): the forced cells as the released guide's own fill.sh prints them over the translation deafc44832d6a80a… (all of the seat's roots in one cut). By AI agents, Wed Nov 11 2026. No macro, syntax, notation, axiom, sorry.
-/
import Derived.Test.YtbidaccdjnbhfaaChecked
import GoSem.Claim
import GoSem.ClaimJoined
import GoSem.ClaimMapViews
import Derived.JoinedTies
import Derived.KernelRfl
namespace Go.Proofs.Ytbidaccdjnbhfaa
/- THE CELL 'sum', in the pinned program and in every row, IS THE sha256 OF THE DUMP (.gsa) THAT YtbidaccdjnbhfaaProg.lean LOADS. Nothing in Lean hashes anything: it is a label: what it is worth is what the hold of that sum in a sandbox is worth. -/
noncomputable def Try.pinned : Pinned := { name := "ytbidaccdjnbhfaa", sum := "deafc44832d6a80ad5768ab5d719e1eed5a0702339a0f816e551ed81d88bdac8", checked := Try.checked }
namespace Rows
def none {H : Type} : Left H := { results := [], args := [] }

/-- 'laws.FnExactCoalesce': WHATEVER THE INPUT: true; the input reads as it did. -/
def fnExactCoalesceSpec : ChangeSpec := { name := "fnExactCoalesce", fn := fun _ => fun
  | [d] => { results := [.lit (.bool true)], args := [d] }
  | _ => none }
def fnExactCoalesceRow : OpenClaim := { program := "ytbidaccdjnbhfaa", sum := "deafc44832d6a80ad5768ab5d719e1eed5a0702339a0f816e551ed81d88bdac8", func := "loop.example/g03312/laws.FnExactCoalesce", spec := "fnExactCoalesce", apart := false }
def FnExactCoalesceSaid : Prop := fnExactCoalesceRow.holds Try.pinned (OpenSpec.ofChange fnExactCoalesceSpec)

/-- ITS FALSE NEIGHBOUR: 'it returns false'. Refute it at one input. -/
def fnExactCoalesceWrong : ChangeSpec := { name := "fnExactCoalesce", fn := fun _ => fun
  | [d] => { results := [.lit (.bool false)], args := [d] }
  | _ => none }
def FnExactCoalesceWrongFalsely : Prop := fnExactCoalesceRow.holds Try.pinned (OpenSpec.ofChange fnExactCoalesceWrong)

/-- 'laws.FnExactSplitCount': WHATEVER THE INPUT: true; the input reads as it did. -/
def fnExactSplitCountSpec : ChangeSpec := { name := "fnExactSplitCount", fn := fun _ => fun
  | [d1, d2] => { results := [.lit (.bool true)], args := [d1, d2] }
  | _ => none }
def fnExactSplitCountRow : OpenClaim := { program := "ytbidaccdjnbhfaa", sum := "deafc44832d6a80ad5768ab5d719e1eed5a0702339a0f816e551ed81d88bdac8", func := "loop.example/g03312/laws.FnExactSplitCount", spec := "fnExactSplitCount", apart := false }
def FnExactSplitCountSaid : Prop := fnExactSplitCountRow.holds Try.pinned (OpenSpec.ofChange fnExactSplitCountSpec)

/-- ITS FALSE NEIGHBOUR: 'it returns false'. Refute it at one input. -/
def fnExactSplitCountWrong : ChangeSpec := { name := "fnExactSplitCount", fn := fun _ => fun
  | [d1, d2] => { results := [.lit (.bool false)], args := [d1, d2] }
  | _ => none }
def FnExactSplitCountWrongFalsely : Prop := fnExactSplitCountRow.holds Try.pinned (OpenSpec.ofChange fnExactSplitCountWrong)

/-- 'laws.FnExactSplit': WHATEVER THE INPUT: true; the input reads as it did. -/
def fnExactSplitSpec : ChangeSpec := { name := "fnExactSplit", fn := fun _ => fun
  | [d1, d2] => { results := [.lit (.bool true)], args := [d1, d2] }
  | _ => none }
def fnExactSplitRow : OpenClaim := { program := "ytbidaccdjnbhfaa", sum := "deafc44832d6a80ad5768ab5d719e1eed5a0702339a0f816e551ed81d88bdac8", func := "loop.example/g03312/laws.FnExactSplit", spec := "fnExactSplit", unfollowed := true, recurses := true, apart := false }
def FnExactSplitSaid : Prop := fnExactSplitRow.holds Try.pinned (OpenSpec.ofChange fnExactSplitSpec)

/-- ITS FALSE NEIGHBOUR: 'it returns false'. Refute it at one input. -/
def fnExactSplitWrong : ChangeSpec := { name := "fnExactSplit", fn := fun _ => fun
  | [d1, d2] => { results := [.lit (.bool false)], args := [d1, d2] }
  | _ => none }
def FnExactSplitWrongFalsely : Prop := fnExactSplitRow.holds Try.pinned (OpenSpec.ofChange fnExactSplitWrong)

/-- 'laws.FnExactFrameAll': WHATEVER THE INPUT: true; the input reads as it did. -/
def fnExactFrameAllSpec : ChangeSpec := { name := "fnExactFrameAll", fn := fun _ => fun
  | [d] => { results := [.lit (.bool true)], args := [d] }
  | _ => none }
def fnExactFrameAllRow : OpenClaim := { program := "ytbidaccdjnbhfaa", sum := "deafc44832d6a80ad5768ab5d719e1eed5a0702339a0f816e551ed81d88bdac8", func := "loop.example/g03312/laws.FnExactFrameAll", spec := "fnExactFrameAll", inPlace := ["internal/abi.NoEscape", "internal/bytealg.MakeNoZero"], apart := false }
def FnExactFrameAllSaid : Prop := fnExactFrameAllRow.holds Try.pinned (OpenSpec.ofChange fnExactFrameAllSpec)

/-- ITS FALSE NEIGHBOUR: 'it returns false'. Refute it at one input. -/
def fnExactFrameAllWrong : ChangeSpec := { name := "fnExactFrameAll", fn := fun _ => fun
  | [d] => { results := [.lit (.bool false)], args := [d] }
  | _ => none }
def FnExactFrameAllWrongFalsely : Prop := fnExactFrameAllRow.holds Try.pinned (OpenSpec.ofChange fnExactFrameAllWrong)

/-- 'laws.FnExactSendFrames': WHATEVER THE INPUT: true; the input reads as it did. -/
def fnExactSendFramesSpec : ChangeSpec := { name := "fnExactSendFrames", fn := fun _ => fun
  | [d1, d2] => { results := [.lit (.bool true)], args := [d1, d2] }
  | _ => none }
def fnExactSendFramesRow : OpenClaim := { program := "ytbidaccdjnbhfaa", sum := "deafc44832d6a80ad5768ab5d719e1eed5a0702339a0f816e551ed81d88bdac8", func := "loop.example/g03312/laws.FnExactSendFrames", spec := "fnExactSendFrames", inPlace := ["internal/abi.NoEscape", "internal/bytealg.MakeNoZero"], unfollowed := true, recurses := true, apart := false }
def FnExactSendFramesSaid : Prop := fnExactSendFramesRow.holds Try.pinned (OpenSpec.ofChange fnExactSendFramesSpec)

/-- ITS FALSE NEIGHBOUR: 'it returns false'. Refute it at one input. -/
def fnExactSendFramesWrong : ChangeSpec := { name := "fnExactSendFrames", fn := fun _ => fun
  | [d1, d2] => { results := [.lit (.bool false)], args := [d1, d2] }
  | _ => none }
def FnExactSendFramesWrongFalsely : Prop := fnExactSendFramesRow.holds Try.pinned (OpenSpec.ofChange fnExactSendFramesWrong)

/-- 'laws.FnExactResegment': WHATEVER THE INPUT: true; the input reads as it did. -/
def fnExactResegmentSpec : ChangeSpec := { name := "fnExactResegment", fn := fun _ => fun
  | [d] => { results := [.lit (.bool true)], args := [d] }
  | _ => none }
def fnExactResegmentRow : OpenClaim := { program := "ytbidaccdjnbhfaa", sum := "deafc44832d6a80ad5768ab5d719e1eed5a0702339a0f816e551ed81d88bdac8", func := "loop.example/g03312/laws.FnExactResegment", spec := "fnExactResegment", unfollowed := true, recurses := true, apart := false }
def FnExactResegmentSaid : Prop := fnExactResegmentRow.holds Try.pinned (OpenSpec.ofChange fnExactResegmentSpec)

/-- ITS FALSE NEIGHBOUR: 'it returns false'. Refute it at one input. -/
def fnExactResegmentWrong : ChangeSpec := { name := "fnExactResegment", fn := fun _ => fun
  | [d] => { results := [.lit (.bool false)], args := [d] }
  | _ => none }
def FnExactResegmentWrongFalsely : Prop := fnExactResegmentRow.holds Try.pinned (OpenSpec.ofChange fnExactResegmentWrong)

/-- 'laws.FnExactStreamIndex': WHATEVER THE INPUT: true; the input reads as it did. -/
def fnExactStreamIndexSpec : ChangeSpec := { name := "fnExactStreamIndex", fn := fun _ => fun
  | [d1, d2] => { results := [.lit (.bool true)], args := [d1, d2] }
  | _ => none }
def fnExactStreamIndexRow : OpenClaim := { program := "ytbidaccdjnbhfaa", sum := "deafc44832d6a80ad5768ab5d719e1eed5a0702339a0f816e551ed81d88bdac8", func := "loop.example/g03312/laws.FnExactStreamIndex", spec := "fnExactStreamIndex", unfollowed := true, recurses := true, apart := false }
def FnExactStreamIndexSaid : Prop := fnExactStreamIndexRow.holds Try.pinned (OpenSpec.ofChange fnExactStreamIndexSpec)

/-- ITS FALSE NEIGHBOUR: 'it returns false'. Refute it at one input. -/
def fnExactStreamIndexWrong : ChangeSpec := { name := "fnExactStreamIndex", fn := fun _ => fun
  | [d1, d2] => { results := [.lit (.bool false)], args := [d1, d2] }
  | _ => none }
def FnExactStreamIndexWrongFalsely : Prop := fnExactStreamIndexRow.holds Try.pinned (OpenSpec.ofChange fnExactStreamIndexWrong)

/-- 'laws.FnExactDataOf': WHATEVER THE INPUT: true; the input reads as it did. -/
def fnExactDataOfSpec : ChangeSpec := { name := "fnExactDataOf", fn := fun _ => fun
  | [d1, d2] => { results := [.lit (.bool true)], args := [d1, d2] }
  | _ => none }
def fnExactDataOfRow : OpenClaim := { program := "ytbidaccdjnbhfaa", sum := "deafc44832d6a80ad5768ab5d719e1eed5a0702339a0f816e551ed81d88bdac8", func := "loop.example/g03312/laws.FnExactDataOf", spec := "fnExactDataOf", unfollowed := true, recurses := true, apart := false }
def FnExactDataOfSaid : Prop := fnExactDataOfRow.holds Try.pinned (OpenSpec.ofChange fnExactDataOfSpec)

/-- ITS FALSE NEIGHBOUR: 'it returns false'. Refute it at one input. -/
def fnExactDataOfWrong : ChangeSpec := { name := "fnExactDataOf", fn := fun _ => fun
  | [d1, d2] => { results := [.lit (.bool false)], args := [d1, d2] }
  | _ => none }
def FnExactDataOfWrongFalsely : Prop := fnExactDataOfRow.holds Try.pinned (OpenSpec.ofChange fnExactDataOfWrong)

/-- 'laws.FnExactDeliver': WHATEVER THE INPUT: true; the input reads as it did. -/
def fnExactDeliverSpec : ChangeSpec := { name := "fnExactDeliver", fn := fun _ => fun
  | [d1, d2] => { results := [.lit (.bool true)], args := [d1, d2] }
  | _ => none }
def fnExactDeliverRow : OpenClaim := { program := "ytbidaccdjnbhfaa", sum := "deafc44832d6a80ad5768ab5d719e1eed5a0702339a0f816e551ed81d88bdac8", func := "loop.example/g03312/laws.FnExactDeliver", spec := "fnExactDeliver", unfollowed := true, recurses := true, apart := false }
def FnExactDeliverSaid : Prop := fnExactDeliverRow.holds Try.pinned (OpenSpec.ofChange fnExactDeliverSpec)

/-- ITS FALSE NEIGHBOUR: 'it returns false'. Refute it at one input. -/
def fnExactDeliverWrong : ChangeSpec := { name := "fnExactDeliver", fn := fun _ => fun
  | [d1, d2] => { results := [.lit (.bool false)], args := [d1, d2] }
  | _ => none }
def FnExactDeliverWrongFalsely : Prop := fnExactDeliverRow.holds Try.pinned (OpenSpec.ofChange fnExactDeliverWrong)

/-- 'laws.FnExactDeliverAll': WHATEVER THE INPUT: true; the input reads as it did. -/
def fnExactDeliverAllSpec : ChangeSpec := { name := "fnExactDeliverAll", fn := fun _ => fun
  | [d1, d2] => { results := [.lit (.bool true)], args := [d1, d2] }
  | _ => none }
def fnExactDeliverAllRow : OpenClaim := { program := "ytbidaccdjnbhfaa", sum := "deafc44832d6a80ad5768ab5d719e1eed5a0702339a0f816e551ed81d88bdac8", func := "loop.example/g03312/laws.FnExactDeliverAll", spec := "fnExactDeliverAll", unfollowed := true, recurses := true, apart := false }
def FnExactDeliverAllSaid : Prop := fnExactDeliverAllRow.holds Try.pinned (OpenSpec.ofChange fnExactDeliverAllSpec)

/-- ITS FALSE NEIGHBOUR: 'it returns false'. Refute it at one input. -/
def fnExactDeliverAllWrong : ChangeSpec := { name := "fnExactDeliverAll", fn := fun _ => fun
  | [d1, d2] => { results := [.lit (.bool false)], args := [d1, d2] }
  | _ => none }
def FnExactDeliverAllWrongFalsely : Prop := fnExactDeliverAllRow.holds Try.pinned (OpenSpec.ofChange fnExactDeliverAllWrong)

/-- 'laws.FnExactDeliverSupers': WHATEVER THE INPUT: true; the input reads as it did. -/
def fnExactDeliverSupersSpec : ChangeSpec := { name := "fnExactDeliverSupers", fn := fun _ => fun
  | [d1, d2] => { results := [.lit (.bool true)], args := [d1, d2] }
  | _ => none }
def fnExactDeliverSupersRow : OpenClaim := { program := "ytbidaccdjnbhfaa", sum := "deafc44832d6a80ad5768ab5d719e1eed5a0702339a0f816e551ed81d88bdac8", func := "loop.example/g03312/laws.FnExactDeliverSupers", spec := "fnExactDeliverSupers", unfollowed := true, recurses := true, apart := false }
def FnExactDeliverSupersSaid : Prop := fnExactDeliverSupersRow.holds Try.pinned (OpenSpec.ofChange fnExactDeliverSupersSpec)

/-- ITS FALSE NEIGHBOUR: 'it returns false'. Refute it at one input. -/
def fnExactDeliverSupersWrong : ChangeSpec := { name := "fnExactDeliverSupers", fn := fun _ => fun
  | [d1, d2] => { results := [.lit (.bool false)], args := [d1, d2] }
  | _ => none }
def FnExactDeliverSupersWrongFalsely : Prop := fnExactDeliverSupersRow.holds Try.pinned (OpenSpec.ofChange fnExactDeliverSupersWrong)

/- THE SECOND FORM. 'bulk': how many values and letters a reading holds, each counted each time it is reached (what is shared counts as often as it is met; a slice's spare places count too). A statement '..UptoSaid' is the law's where the arguments, and the package variables that the reading takes, are together of bulk at most 1048576: NARROWER than '..Said'. Prove '..Said' where nothing that the law and all that it calls make is longer than what came in: it says more and counts as full. Else prove '..UptoSaid'. A law counts once. -/
mutual
def uptoBulk {H : Type} : DataW H → Nat
  | .lit (.string bytes) => bytes.length + 1
  | .lit _ => 1
  | .nil => 1
  | .ptr d => uptoBulk d + 1
  | .slice elems spare => uptoBulkAll elems + uptoBulkAll spare + 1
  | .agg parts => uptoBulkAll parts + 1
  | .iface _ d => uptoBulk d + 1
  | .map entries => uptoBulkEntries entries + 1
  | .held _ => 1
def uptoBulkAll {H : Type} : List (DataW H) → Nat
  | [] => 0
  | d :: r => uptoBulk d + uptoBulkAll r
def uptoBulkEntries {H : Type} : List (Lit × DataW H) → Nat
  | [] => 0
  | x :: r => uptoBulkEntry x + uptoBulkEntries r
def uptoBulkEntry {H : Type} : Lit × DataW H → Nat
  | (.string bytes, d) => bytes.length + uptoBulk d + 1
  | (_, d) => uptoBulk d + 1
 end
def uptoSmall : (H : Type) → List (DataW H) → Bool := fun _ ds => decide (uptoBulkAll ds ≤ 1048576)
def OpenSpec.upto (s : _root_.Go.ChangeSpec) : _root_.Go.OpenSpec := { _root_.Go.OpenSpec.ofChange s with cond := some uptoSmall }

/-- 'laws.FnExactCoalesce', WHERE WHAT IT READS IS OF BULK AT MOST 1048576: true; the input reads as it did. -/
def fnExactCoalesceUptoRow : OpenClaim := { program := "ytbidaccdjnbhfaa", sum := "deafc44832d6a80ad5768ab5d719e1eed5a0702339a0f816e551ed81d88bdac8", func := "loop.example/g03312/laws.FnExactCoalesce", spec := "fnExactCoalesce", apart := false, narrowed := true }
def FnExactCoalesceUptoSaid : Prop := fnExactCoalesceUptoRow.holds Try.pinned (OpenSpec.upto fnExactCoalesceSpec)

/-- 'laws.FnExactSplitCount', WHERE WHAT IT READS IS OF BULK AT MOST 1048576: true; the input reads as it did. -/
def fnExactSplitCountUptoRow : OpenClaim := { program := "ytbidaccdjnbhfaa", sum := "deafc44832d6a80ad5768ab5d719e1eed5a0702339a0f816e551ed81d88bdac8", func := "loop.example/g03312/laws.FnExactSplitCount", spec := "fnExactSplitCount", apart := false, narrowed := true }
def FnExactSplitCountUptoSaid : Prop := fnExactSplitCountUptoRow.holds Try.pinned (OpenSpec.upto fnExactSplitCountSpec)

/-- 'laws.FnExactSplit', WHERE WHAT IT READS IS OF BULK AT MOST 1048576: true; the input reads as it did. -/
def fnExactSplitUptoRow : OpenClaim := { program := "ytbidaccdjnbhfaa", sum := "deafc44832d6a80ad5768ab5d719e1eed5a0702339a0f816e551ed81d88bdac8", func := "loop.example/g03312/laws.FnExactSplit", spec := "fnExactSplit", unfollowed := true, recurses := true, apart := false, narrowed := true }
def FnExactSplitUptoSaid : Prop := fnExactSplitUptoRow.holds Try.pinned (OpenSpec.upto fnExactSplitSpec)

/-- 'laws.FnExactFrameAll', WHERE WHAT IT READS IS OF BULK AT MOST 1048576: true; the input reads as it did. -/
def fnExactFrameAllUptoRow : OpenClaim := { program := "ytbidaccdjnbhfaa", sum := "deafc44832d6a80ad5768ab5d719e1eed5a0702339a0f816e551ed81d88bdac8", func := "loop.example/g03312/laws.FnExactFrameAll", spec := "fnExactFrameAll", inPlace := ["internal/abi.NoEscape", "internal/bytealg.MakeNoZero"], apart := false, narrowed := true }
def FnExactFrameAllUptoSaid : Prop := fnExactFrameAllUptoRow.holds Try.pinned (OpenSpec.upto fnExactFrameAllSpec)

/-- 'laws.FnExactSendFrames', WHERE WHAT IT READS IS OF BULK AT MOST 1048576: true; the input reads as it did. -/
def fnExactSendFramesUptoRow : OpenClaim := { program := "ytbidaccdjnbhfaa", sum := "deafc44832d6a80ad5768ab5d719e1eed5a0702339a0f816e551ed81d88bdac8", func := "loop.example/g03312/laws.FnExactSendFrames", spec := "fnExactSendFrames", inPlace := ["internal/abi.NoEscape", "internal/bytealg.MakeNoZero"], unfollowed := true, recurses := true, apart := false, narrowed := true }
def FnExactSendFramesUptoSaid : Prop := fnExactSendFramesUptoRow.holds Try.pinned (OpenSpec.upto fnExactSendFramesSpec)

/-- 'laws.FnExactResegment', WHERE WHAT IT READS IS OF BULK AT MOST 1048576: true; the input reads as it did. -/
def fnExactResegmentUptoRow : OpenClaim := { program := "ytbidaccdjnbhfaa", sum := "deafc44832d6a80ad5768ab5d719e1eed5a0702339a0f816e551ed81d88bdac8", func := "loop.example/g03312/laws.FnExactResegment", spec := "fnExactResegment", unfollowed := true, recurses := true, apart := false, narrowed := true }
def FnExactResegmentUptoSaid : Prop := fnExactResegmentUptoRow.holds Try.pinned (OpenSpec.upto fnExactResegmentSpec)

/-- 'laws.FnExactStreamIndex', WHERE WHAT IT READS IS OF BULK AT MOST 1048576: true; the input reads as it did. -/
def fnExactStreamIndexUptoRow : OpenClaim := { program := "ytbidaccdjnbhfaa", sum := "deafc44832d6a80ad5768ab5d719e1eed5a0702339a0f816e551ed81d88bdac8", func := "loop.example/g03312/laws.FnExactStreamIndex", spec := "fnExactStreamIndex", unfollowed := true, recurses := true, apart := false, narrowed := true }
def FnExactStreamIndexUptoSaid : Prop := fnExactStreamIndexUptoRow.holds Try.pinned (OpenSpec.upto fnExactStreamIndexSpec)

/-- 'laws.FnExactDataOf', WHERE WHAT IT READS IS OF BULK AT MOST 1048576: true; the input reads as it did. -/
def fnExactDataOfUptoRow : OpenClaim := { program := "ytbidaccdjnbhfaa", sum := "deafc44832d6a80ad5768ab5d719e1eed5a0702339a0f816e551ed81d88bdac8", func := "loop.example/g03312/laws.FnExactDataOf", spec := "fnExactDataOf", unfollowed := true, recurses := true, apart := false, narrowed := true }
def FnExactDataOfUptoSaid : Prop := fnExactDataOfUptoRow.holds Try.pinned (OpenSpec.upto fnExactDataOfSpec)

/-- 'laws.FnExactDeliver', WHERE WHAT IT READS IS OF BULK AT MOST 1048576: true; the input reads as it did. -/
def fnExactDeliverUptoRow : OpenClaim := { program := "ytbidaccdjnbhfaa", sum := "deafc44832d6a80ad5768ab5d719e1eed5a0702339a0f816e551ed81d88bdac8", func := "loop.example/g03312/laws.FnExactDeliver", spec := "fnExactDeliver", unfollowed := true, recurses := true, apart := false, narrowed := true }
def FnExactDeliverUptoSaid : Prop := fnExactDeliverUptoRow.holds Try.pinned (OpenSpec.upto fnExactDeliverSpec)

/-- 'laws.FnExactDeliverAll', WHERE WHAT IT READS IS OF BULK AT MOST 1048576: true; the input reads as it did. -/
def fnExactDeliverAllUptoRow : OpenClaim := { program := "ytbidaccdjnbhfaa", sum := "deafc44832d6a80ad5768ab5d719e1eed5a0702339a0f816e551ed81d88bdac8", func := "loop.example/g03312/laws.FnExactDeliverAll", spec := "fnExactDeliverAll", unfollowed := true, recurses := true, apart := false, narrowed := true }
def FnExactDeliverAllUptoSaid : Prop := fnExactDeliverAllUptoRow.holds Try.pinned (OpenSpec.upto fnExactDeliverAllSpec)

/-- 'laws.FnExactDeliverSupers', WHERE WHAT IT READS IS OF BULK AT MOST 1048576: true; the input reads as it did. -/
def fnExactDeliverSupersUptoRow : OpenClaim := { program := "ytbidaccdjnbhfaa", sum := "deafc44832d6a80ad5768ab5d719e1eed5a0702339a0f816e551ed81d88bdac8", func := "loop.example/g03312/laws.FnExactDeliverSupers", spec := "fnExactDeliverSupers", unfollowed := true, recurses := true, apart := false, narrowed := true }
def FnExactDeliverSupersUptoSaid : Prop := fnExactDeliverSupersUptoRow.holds Try.pinned (OpenSpec.upto fnExactDeliverSupersSpec)

end Rows
end Go.Proofs.Ytbidaccdjnbhfaa
