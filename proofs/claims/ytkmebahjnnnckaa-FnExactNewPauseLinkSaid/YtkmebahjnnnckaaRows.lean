/-
  No cell of these rows narrows 'for every input' (looked for: loops, veiled, ifaces, maps, wideKeys, modest, calm, conditions, laid).
  DERIVED. THE GIVEN ROWS OF THIS SEAT. 12 by the template 'for every input the law returns true; each argument reads behind the call as it read before'; 0 by the template 'total and deterministic' (their statements: YtkmebahjnnnckaaTotals.lean).
  GIVEN WITH THE SEED: the statements are not yours to turn. If you find one false, say at which input.
  Laid BY PROGRAM, IN A SANDBOX (cutbox-rows.mjs): the forced cells as the released guide's own fill.sh prints them over the translation 7cc4741c80064c88… (all of the seat's roots in one cut). By AI agents, Wed Nov 11 2026. No macro, syntax, notation, axiom, sorry.
-/
import Derived.Test.YtkmebahjnnnckaaChecked
import GoSem.Claim
import GoSem.ClaimJoined
import GoSem.ClaimMapViews
import Derived.JoinedTies
import Derived.KernelRfl
namespace Go.Proofs.Ytkmebahjnnnckaa
/- THE CELL 'sum', in the pinned program and in every row, IS THE sha256 OF THE DUMP (.gsa) THAT YtkmebahjnnnckaaProg.lean LOADS. Nothing in Lean hashes anything: it is a label: what it is worth is what the hold of that sum in a sandbox is worth. -/
noncomputable def Try.pinned : Pinned := { name := "ytkmebahjnnnckaa", sum := "7cc4741c80064c888a27030d4529472e2731798f734be338c052bb5ef73f1868", checked := Try.checked }
namespace Rows
def none {H : Type} : Left H := { results := [], args := [] }

/-- 'laws.FnExactSameData': WHATEVER THE INPUT: true; the input reads as it did. -/
def fnExactSameDataSpec : ChangeSpec := { name := "fnExactSameData", fn := fun _ => fun
  | [d1, d2] => { results := [.lit (.bool true)], args := [d1, d2] }
  | _ => none }
def fnExactSameDataRow : OpenClaim := { program := "ytkmebahjnnnckaa", sum := "7cc4741c80064c888a27030d4529472e2731798f734be338c052bb5ef73f1868", func := "loop.example/g03312/laws.FnExactSameData", spec := "fnExactSameData", unfollowed := true, recurses := true, apart := false }
def FnExactSameDataSaid : Prop := fnExactSameDataRow.holds Try.pinned (OpenSpec.ofChange fnExactSameDataSpec)

/-- ITS FALSE NEIGHBOUR: 'it returns false'. Refute it at one input. -/
def fnExactSameDataWrong : ChangeSpec := { name := "fnExactSameData", fn := fun _ => fun
  | [d1, d2] => { results := [.lit (.bool false)], args := [d1, d2] }
  | _ => none }
def FnExactSameDataWrongFalsely : Prop := fnExactSameDataRow.holds Try.pinned (OpenSpec.ofChange fnExactSameDataWrong)

/-- 'laws.FnExactRxOk': WHATEVER THE INPUT: true; the input reads as it did. -/
def fnExactRxOkSpec : ChangeSpec := { name := "fnExactRxOk", fn := fun _ => fun
  | [d] => { results := [.lit (.bool true)], args := [d] }
  | _ => none }
def fnExactRxOkRow : OpenClaim := { program := "ytkmebahjnnnckaa", sum := "7cc4741c80064c888a27030d4529472e2731798f734be338c052bb5ef73f1868", func := "loop.example/g03312/laws.FnExactRxOk", spec := "fnExactRxOk", apart := false }
def FnExactRxOkSaid : Prop := fnExactRxOkRow.holds Try.pinned (OpenSpec.ofChange fnExactRxOkSpec)

/-- ITS FALSE NEIGHBOUR: 'it returns false'. Refute it at one input. -/
def fnExactRxOkWrong : ChangeSpec := { name := "fnExactRxOk", fn := fun _ => fun
  | [d] => { results := [.lit (.bool false)], args := [d] }
  | _ => none }
def FnExactRxOkWrongFalsely : Prop := fnExactRxOkRow.holds Try.pinned (OpenSpec.ofChange fnExactRxOkWrong)

/-- 'laws.FnExactAcceptedPackets': WHATEVER THE INPUT: true; the input reads as it did. -/
def fnExactAcceptedPacketsSpec : ChangeSpec := { name := "fnExactAcceptedPackets", fn := fun _ => fun
  | [d1, d2] => { results := [.lit (.bool true)], args := [d1, d2] }
  | _ => none }
def fnExactAcceptedPacketsRow : OpenClaim := { program := "ytkmebahjnnnckaa", sum := "7cc4741c80064c888a27030d4529472e2731798f734be338c052bb5ef73f1868", func := "loop.example/g03312/laws.FnExactAcceptedPackets", spec := "fnExactAcceptedPackets", unfollowed := true, recurses := true, apart := false }
def FnExactAcceptedPacketsSaid : Prop := fnExactAcceptedPacketsRow.holds Try.pinned (OpenSpec.ofChange fnExactAcceptedPacketsSpec)

/-- ITS FALSE NEIGHBOUR: 'it returns false'. Refute it at one input. -/
def fnExactAcceptedPacketsWrong : ChangeSpec := { name := "fnExactAcceptedPackets", fn := fun _ => fun
  | [d1, d2] => { results := [.lit (.bool false)], args := [d1, d2] }
  | _ => none }
def FnExactAcceptedPacketsWrongFalsely : Prop := fnExactAcceptedPacketsRow.holds Try.pinned (OpenSpec.ofChange fnExactAcceptedPacketsWrong)

/-- 'laws.FnExactGiveBuffers': WHATEVER THE INPUT: true; the input reads as it did. -/
def fnExactGiveBuffersSpec : ChangeSpec := { name := "fnExactGiveBuffers", fn := fun _ => fun
  | [d1, d2] => { results := [.lit (.bool true)], args := [d1, d2] }
  | _ => none }
def fnExactGiveBuffersRow : OpenClaim := { program := "ytkmebahjnnnckaa", sum := "7cc4741c80064c888a27030d4529472e2731798f734be338c052bb5ef73f1868", func := "loop.example/g03312/laws.FnExactGiveBuffers", spec := "fnExactGiveBuffers", unfollowed := true, recurses := true, apart := false }
def FnExactGiveBuffersSaid : Prop := fnExactGiveBuffersRow.holds Try.pinned (OpenSpec.ofChange fnExactGiveBuffersSpec)

/-- ITS FALSE NEIGHBOUR: 'it returns false'. Refute it at one input. -/
def fnExactGiveBuffersWrong : ChangeSpec := { name := "fnExactGiveBuffers", fn := fun _ => fun
  | [d1, d2] => { results := [.lit (.bool false)], args := [d1, d2] }
  | _ => none }
def FnExactGiveBuffersWrongFalsely : Prop := fnExactGiveBuffersRow.holds Try.pinned (OpenSpec.ofChange fnExactGiveBuffersWrong)

/-- 'laws.FnExactDropVlan': WHATEVER THE INPUT: true; the input reads as it did. -/
def fnExactDropVlanSpec : ChangeSpec := { name := "fnExactDropVlan", fn := fun _ => fun
  | [d1, d2] => { results := [.lit (.bool true)], args := [d1, d2] }
  | _ => none }
def fnExactDropVlanRow : OpenClaim := { program := "ytkmebahjnnnckaa", sum := "7cc4741c80064c888a27030d4529472e2731798f734be338c052bb5ef73f1868", func := "loop.example/g03312/laws.FnExactDropVlan", spec := "fnExactDropVlan", unfollowed := true, recurses := true, apart := false }
def FnExactDropVlanSaid : Prop := fnExactDropVlanRow.holds Try.pinned (OpenSpec.ofChange fnExactDropVlanSpec)

/-- ITS FALSE NEIGHBOUR: 'it returns false'. Refute it at one input. -/
def fnExactDropVlanWrong : ChangeSpec := { name := "fnExactDropVlan", fn := fun _ => fun
  | [d1, d2] => { results := [.lit (.bool false)], args := [d1, d2] }
  | _ => none }
def FnExactDropVlanWrongFalsely : Prop := fnExactDropVlanRow.holds Try.pinned (OpenSpec.ofChange fnExactDropVlanWrong)

/-- 'laws.FnExactNewPauseLink': WHATEVER THE INPUT: true; the input reads as it did. -/
def fnExactNewPauseLinkSpec : ChangeSpec := { name := "fnExactNewPauseLink", fn := fun _ => fun
  | [d1, d2, d3, d4] => { results := [.lit (.bool true)], args := [d1, d2, d3, d4] }
  | _ => none }
def fnExactNewPauseLinkRow : OpenClaim := { program := "ytkmebahjnnnckaa", sum := "7cc4741c80064c888a27030d4529472e2731798f734be338c052bb5ef73f1868", func := "loop.example/g03312/laws.FnExactNewPauseLink", spec := "fnExactNewPauseLink", unfollowed := true, recurses := true, apart := false }
def FnExactNewPauseLinkSaid : Prop := fnExactNewPauseLinkRow.holds Try.pinned (OpenSpec.ofChange fnExactNewPauseLinkSpec)

/-- ITS FALSE NEIGHBOUR: 'it returns false'. Refute it at one input. -/
def fnExactNewPauseLinkWrong : ChangeSpec := { name := "fnExactNewPauseLink", fn := fun _ => fun
  | [d1, d2, d3, d4] => { results := [.lit (.bool false)], args := [d1, d2, d3, d4] }
  | _ => none }
def FnExactNewPauseLinkWrongFalsely : Prop := fnExactNewPauseLinkRow.holds Try.pinned (OpenSpec.ofChange fnExactNewPauseLinkWrong)

/-- 'laws.FnExactSteeringOk': WHATEVER THE INPUT: true; the input reads as it did. -/
def fnExactSteeringOkSpec : ChangeSpec := { name := "fnExactSteeringOk", fn := fun _ => fun
  | [d1, d2] => { results := [.lit (.bool true)], args := [d1, d2] }
  | _ => none }
def fnExactSteeringOkRow : OpenClaim := { program := "ytkmebahjnnnckaa", sum := "7cc4741c80064c888a27030d4529472e2731798f734be338c052bb5ef73f1868", func := "loop.example/g03312/laws.FnExactSteeringOk", spec := "fnExactSteeringOk", unfollowed := true, recurses := true, apart := false }
def FnExactSteeringOkSaid : Prop := fnExactSteeringOkRow.holds Try.pinned (OpenSpec.ofChange fnExactSteeringOkSpec)

/-- ITS FALSE NEIGHBOUR: 'it returns false'. Refute it at one input. -/
def fnExactSteeringOkWrong : ChangeSpec := { name := "fnExactSteeringOk", fn := fun _ => fun
  | [d1, d2] => { results := [.lit (.bool false)], args := [d1, d2] }
  | _ => none }
def FnExactSteeringOkWrongFalsely : Prop := fnExactSteeringOkRow.holds Try.pinned (OpenSpec.ofChange fnExactSteeringOkWrong)

/-- 'laws.FnExactDropFlow': WHATEVER THE INPUT: true; the input reads as it did. -/
def fnExactDropFlowSpec : ChangeSpec := { name := "fnExactDropFlow", fn := fun _ => fun
  | [d1, d2] => { results := [.lit (.bool true)], args := [d1, d2] }
  | _ => none }
def fnExactDropFlowRow : OpenClaim := { program := "ytkmebahjnnnckaa", sum := "7cc4741c80064c888a27030d4529472e2731798f734be338c052bb5ef73f1868", func := "loop.example/g03312/laws.FnExactDropFlow", spec := "fnExactDropFlow", unfollowed := true, recurses := true, apart := false }
def FnExactDropFlowSaid : Prop := fnExactDropFlowRow.holds Try.pinned (OpenSpec.ofChange fnExactDropFlowSpec)

/-- ITS FALSE NEIGHBOUR: 'it returns false'. Refute it at one input. -/
def fnExactDropFlowWrong : ChangeSpec := { name := "fnExactDropFlow", fn := fun _ => fun
  | [d1, d2] => { results := [.lit (.bool false)], args := [d1, d2] }
  | _ => none }
def FnExactDropFlowWrongFalsely : Prop := fnExactDropFlowRow.holds Try.pinned (OpenSpec.ofChange fnExactDropFlowWrong)

/-- 'laws.FnExactPutFlow': WHATEVER THE INPUT: true; the input reads as it did. -/
def fnExactPutFlowSpec : ChangeSpec := { name := "fnExactPutFlow", fn := fun _ => fun
  | [d1, d2, d3] => { results := [.lit (.bool true)], args := [d1, d2, d3] }
  | _ => none }
def fnExactPutFlowRow : OpenClaim := { program := "ytkmebahjnnnckaa", sum := "7cc4741c80064c888a27030d4529472e2731798f734be338c052bb5ef73f1868", func := "loop.example/g03312/laws.FnExactPutFlow", spec := "fnExactPutFlow", unfollowed := true, recurses := true, apart := false }
def FnExactPutFlowSaid : Prop := fnExactPutFlowRow.holds Try.pinned (OpenSpec.ofChange fnExactPutFlowSpec)

/-- ITS FALSE NEIGHBOUR: 'it returns false'. Refute it at one input. -/
def fnExactPutFlowWrong : ChangeSpec := { name := "fnExactPutFlow", fn := fun _ => fun
  | [d1, d2, d3] => { results := [.lit (.bool false)], args := [d1, d2, d3] }
  | _ => none }
def FnExactPutFlowWrongFalsely : Prop := fnExactPutFlowRow.holds Try.pinned (OpenSpec.ofChange fnExactPutFlowWrong)

/-- 'laws.FnExactTableFlows': WHATEVER THE INPUT: true; the input reads as it did. -/
def fnExactTableFlowsSpec : ChangeSpec := { name := "fnExactTableFlows", fn := fun _ => fun
  | [d] => { results := [.lit (.bool true)], args := [d] }
  | _ => none }
def fnExactTableFlowsRow : OpenClaim := { program := "ytkmebahjnnnckaa", sum := "7cc4741c80064c888a27030d4529472e2731798f734be338c052bb5ef73f1868", func := "loop.example/g03312/laws.FnExactTableFlows", spec := "fnExactTableFlows", unfollowed := true, recurses := true, apart := false }
def FnExactTableFlowsSaid : Prop := fnExactTableFlowsRow.holds Try.pinned (OpenSpec.ofChange fnExactTableFlowsSpec)

/-- ITS FALSE NEIGHBOUR: 'it returns false'. Refute it at one input. -/
def fnExactTableFlowsWrong : ChangeSpec := { name := "fnExactTableFlows", fn := fun _ => fun
  | [d] => { results := [.lit (.bool false)], args := [d] }
  | _ => none }
def FnExactTableFlowsWrongFalsely : Prop := fnExactTableFlowsRow.holds Try.pinned (OpenSpec.ofChange fnExactTableFlowsWrong)

/-- 'laws.FnExactDoFlashStep': WHATEVER THE INPUT: true; the input reads as it did. -/
def fnExactDoFlashStepSpec : ChangeSpec := { name := "fnExactDoFlashStep", fn := fun _ => fun
  | [d1, d2, d3] => { results := [.lit (.bool true)], args := [d1, d2, d3] }
  | _ => none }
def fnExactDoFlashStepRow : OpenClaim := { program := "ytkmebahjnnnckaa", sum := "7cc4741c80064c888a27030d4529472e2731798f734be338c052bb5ef73f1868", func := "loop.example/g03312/laws.FnExactDoFlashStep", spec := "fnExactDoFlashStep", unfollowed := true, recurses := true, apart := false }
def FnExactDoFlashStepSaid : Prop := fnExactDoFlashStepRow.holds Try.pinned (OpenSpec.ofChange fnExactDoFlashStepSpec)

/-- ITS FALSE NEIGHBOUR: 'it returns false'. Refute it at one input. -/
def fnExactDoFlashStepWrong : ChangeSpec := { name := "fnExactDoFlashStep", fn := fun _ => fun
  | [d1, d2, d3] => { results := [.lit (.bool false)], args := [d1, d2, d3] }
  | _ => none }
def FnExactDoFlashStepWrongFalsely : Prop := fnExactDoFlashStepRow.holds Try.pinned (OpenSpec.ofChange fnExactDoFlashStepWrong)

/-- 'laws.FnExactUpdateSteps': WHATEVER THE INPUT: true; the input reads as it did. -/
def fnExactUpdateStepsSpec : ChangeSpec := { name := "fnExactUpdateSteps", fn := fun _ => fun
  | [d1, d2] => { results := [.lit (.bool true)], args := [d1, d2] }
  | _ => none }
def fnExactUpdateStepsRow : OpenClaim := { program := "ytkmebahjnnnckaa", sum := "7cc4741c80064c888a27030d4529472e2731798f734be338c052bb5ef73f1868", func := "loop.example/g03312/laws.FnExactUpdateSteps", spec := "fnExactUpdateSteps", unfollowed := true, recurses := true, apart := false }
def FnExactUpdateStepsSaid : Prop := fnExactUpdateStepsRow.holds Try.pinned (OpenSpec.ofChange fnExactUpdateStepsSpec)

/-- ITS FALSE NEIGHBOUR: 'it returns false'. Refute it at one input. -/
def fnExactUpdateStepsWrong : ChangeSpec := { name := "fnExactUpdateSteps", fn := fun _ => fun
  | [d1, d2] => { results := [.lit (.bool false)], args := [d1, d2] }
  | _ => none }
def FnExactUpdateStepsWrongFalsely : Prop := fnExactUpdateStepsRow.holds Try.pinned (OpenSpec.ofChange fnExactUpdateStepsWrong)

/- THE SECOND FORM. 'bulk': how many values and letters a reading holds, each counted each time it is reached (what is shared counts as often as it is met; a slice's spare places count too). A statement '..UptoSaid' is the law's where the arguments, and the package variables that the reading takes, are together of bulk at most 1048576: NARROWER than '..Said'. Prove '..Said' where nothing that the law and all that it calls make is longer than what came in: it says more and counts as full. Else prove '..UptoSaid'. A law counts once. -/
mutual
def uptoBulk {H : Type} : DataW H → Nat
  | .lit (.string bytes) => bytes.length + 1
  | .lit _ => 1
  | .nil => 1
  | .ptr d => uptoBulk d + 1
  | .slice elems spare => uptoBulkAll elems + uptoBulkAll spare + 1
  | .agg parts => uptoBulkAll parts + 1
  | .iface _ d => uptoBulk d + 1
  | .map entries => uptoBulkEntries entries + 1
  | .held _ => 1
def uptoBulkAll {H : Type} : List (DataW H) → Nat
  | [] => 0
  | d :: r => uptoBulk d + uptoBulkAll r
def uptoBulkEntries {H : Type} : List (Lit × DataW H) → Nat
  | [] => 0
  | x :: r => uptoBulkEntry x + uptoBulkEntries r
def uptoBulkEntry {H : Type} : Lit × DataW H → Nat
  | (.string bytes, d) => bytes.length + uptoBulk d + 1
  | (_, d) => uptoBulk d + 1
 end
def uptoSmall : (H : Type) → List (DataW H) → Bool := fun _ ds => decide (uptoBulkAll ds ≤ 1048576)
def OpenSpec.upto (s : _root_.Go.ChangeSpec) : _root_.Go.OpenSpec := { _root_.Go.OpenSpec.ofChange s with cond := some uptoSmall }

/-- 'laws.FnExactSameData', WHERE WHAT IT READS IS OF BULK AT MOST 1048576: true; the input reads as it did. -/
def fnExactSameDataUptoRow : OpenClaim := { program := "ytkmebahjnnnckaa", sum := "7cc4741c80064c888a27030d4529472e2731798f734be338c052bb5ef73f1868", func := "loop.example/g03312/laws.FnExactSameData", spec := "fnExactSameData", unfollowed := true, recurses := true, apart := false, narrowed := true }
def FnExactSameDataUptoSaid : Prop := fnExactSameDataUptoRow.holds Try.pinned (OpenSpec.upto fnExactSameDataSpec)

/-- 'laws.FnExactRxOk', WHERE WHAT IT READS IS OF BULK AT MOST 1048576: true; the input reads as it did. -/
def fnExactRxOkUptoRow : OpenClaim := { program := "ytkmebahjnnnckaa", sum := "7cc4741c80064c888a27030d4529472e2731798f734be338c052bb5ef73f1868", func := "loop.example/g03312/laws.FnExactRxOk", spec := "fnExactRxOk", apart := false, narrowed := true }
def FnExactRxOkUptoSaid : Prop := fnExactRxOkUptoRow.holds Try.pinned (OpenSpec.upto fnExactRxOkSpec)

/-- 'laws.FnExactAcceptedPackets', WHERE WHAT IT READS IS OF BULK AT MOST 1048576: true; the input reads as it did. -/
def fnExactAcceptedPacketsUptoRow : OpenClaim := { program := "ytkmebahjnnnckaa", sum := "7cc4741c80064c888a27030d4529472e2731798f734be338c052bb5ef73f1868", func := "loop.example/g03312/laws.FnExactAcceptedPackets", spec := "fnExactAcceptedPackets", unfollowed := true, recurses := true, apart := false, narrowed := true }
def FnExactAcceptedPacketsUptoSaid : Prop := fnExactAcceptedPacketsUptoRow.holds Try.pinned (OpenSpec.upto fnExactAcceptedPacketsSpec)

/-- 'laws.FnExactGiveBuffers', WHERE WHAT IT READS IS OF BULK AT MOST 1048576: true; the input reads as it did. -/
def fnExactGiveBuffersUptoRow : OpenClaim := { program := "ytkmebahjnnnckaa", sum := "7cc4741c80064c888a27030d4529472e2731798f734be338c052bb5ef73f1868", func := "loop.example/g03312/laws.FnExactGiveBuffers", spec := "fnExactGiveBuffers", unfollowed := true, recurses := true, apart := false, narrowed := true }
def FnExactGiveBuffersUptoSaid : Prop := fnExactGiveBuffersUptoRow.holds Try.pinned (OpenSpec.upto fnExactGiveBuffersSpec)

/-- 'laws.FnExactDropVlan', WHERE WHAT IT READS IS OF BULK AT MOST 1048576: true; the input reads as it did. -/
def fnExactDropVlanUptoRow : OpenClaim := { program := "ytkmebahjnnnckaa", sum := "7cc4741c80064c888a27030d4529472e2731798f734be338c052bb5ef73f1868", func := "loop.example/g03312/laws.FnExactDropVlan", spec := "fnExactDropVlan", unfollowed := true, recurses := true, apart := false, narrowed := true }
def FnExactDropVlanUptoSaid : Prop := fnExactDropVlanUptoRow.holds Try.pinned (OpenSpec.upto fnExactDropVlanSpec)

/-- 'laws.FnExactNewPauseLink', WHERE WHAT IT READS IS OF BULK AT MOST 1048576: true; the input reads as it did. -/
def fnExactNewPauseLinkUptoRow : OpenClaim := { program := "ytkmebahjnnnckaa", sum := "7cc4741c80064c888a27030d4529472e2731798f734be338c052bb5ef73f1868", func := "loop.example/g03312/laws.FnExactNewPauseLink", spec := "fnExactNewPauseLink", unfollowed := true, recurses := true, apart := false, narrowed := true }
def FnExactNewPauseLinkUptoSaid : Prop := fnExactNewPauseLinkUptoRow.holds Try.pinned (OpenSpec.upto fnExactNewPauseLinkSpec)

/-- 'laws.FnExactSteeringOk', WHERE WHAT IT READS IS OF BULK AT MOST 1048576: true; the input reads as it did. -/
def fnExactSteeringOkUptoRow : OpenClaim := { program := "ytkmebahjnnnckaa", sum := "7cc4741c80064c888a27030d4529472e2731798f734be338c052bb5ef73f1868", func := "loop.example/g03312/laws.FnExactSteeringOk", spec := "fnExactSteeringOk", unfollowed := true, recurses := true, apart := false, narrowed := true }
def FnExactSteeringOkUptoSaid : Prop := fnExactSteeringOkUptoRow.holds Try.pinned (OpenSpec.upto fnExactSteeringOkSpec)

/-- 'laws.FnExactDropFlow', WHERE WHAT IT READS IS OF BULK AT MOST 1048576: true; the input reads as it did. -/
def fnExactDropFlowUptoRow : OpenClaim := { program := "ytkmebahjnnnckaa", sum := "7cc4741c80064c888a27030d4529472e2731798f734be338c052bb5ef73f1868", func := "loop.example/g03312/laws.FnExactDropFlow", spec := "fnExactDropFlow", unfollowed := true, recurses := true, apart := false, narrowed := true }
def FnExactDropFlowUptoSaid : Prop := fnExactDropFlowUptoRow.holds Try.pinned (OpenSpec.upto fnExactDropFlowSpec)

/-- 'laws.FnExactPutFlow', WHERE WHAT IT READS IS OF BULK AT MOST 1048576: true; the input reads as it did. -/
def fnExactPutFlowUptoRow : OpenClaim := { program := "ytkmebahjnnnckaa", sum := "7cc4741c80064c888a27030d4529472e2731798f734be338c052bb5ef73f1868", func := "loop.example/g03312/laws.FnExactPutFlow", spec := "fnExactPutFlow", unfollowed := true, recurses := true, apart := false, narrowed := true }
def FnExactPutFlowUptoSaid : Prop := fnExactPutFlowUptoRow.holds Try.pinned (OpenSpec.upto fnExactPutFlowSpec)

/-- 'laws.FnExactTableFlows', WHERE WHAT IT READS IS OF BULK AT MOST 1048576: true; the input reads as it did. -/
def fnExactTableFlowsUptoRow : OpenClaim := { program := "ytkmebahjnnnckaa", sum := "7cc4741c80064c888a27030d4529472e2731798f734be338c052bb5ef73f1868", func := "loop.example/g03312/laws.FnExactTableFlows", spec := "fnExactTableFlows", unfollowed := true, recurses := true, apart := false, narrowed := true }
def FnExactTableFlowsUptoSaid : Prop := fnExactTableFlowsUptoRow.holds Try.pinned (OpenSpec.upto fnExactTableFlowsSpec)

/-- 'laws.FnExactDoFlashStep', WHERE WHAT IT READS IS OF BULK AT MOST 1048576: true; the input reads as it did. -/
def fnExactDoFlashStepUptoRow : OpenClaim := { program := "ytkmebahjnnnckaa", sum := "7cc4741c80064c888a27030d4529472e2731798f734be338c052bb5ef73f1868", func := "loop.example/g03312/laws.FnExactDoFlashStep", spec := "fnExactDoFlashStep", unfollowed := true, recurses := true, apart := false, narrowed := true }
def FnExactDoFlashStepUptoSaid : Prop := fnExactDoFlashStepUptoRow.holds Try.pinned (OpenSpec.upto fnExactDoFlashStepSpec)

/-- 'laws.FnExactUpdateSteps', WHERE WHAT IT READS IS OF BULK AT MOST 1048576: true; the input reads as it did. -/
def fnExactUpdateStepsUptoRow : OpenClaim := { program := "ytkmebahjnnnckaa", sum := "7cc4741c80064c888a27030d4529472e2731798f734be338c052bb5ef73f1868", func := "loop.example/g03312/laws.FnExactUpdateSteps", spec := "fnExactUpdateSteps", unfollowed := true, recurses := true, apart := false, narrowed := true }
def FnExactUpdateStepsUptoSaid : Prop := fnExactUpdateStepsUptoRow.holds Try.pinned (OpenSpec.upto fnExactUpdateStepsSpec)

end Rows
end Go.Proofs.Ytkmebahjnnnckaa
