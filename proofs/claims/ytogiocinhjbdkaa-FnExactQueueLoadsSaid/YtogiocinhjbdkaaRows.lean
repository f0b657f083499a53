/-
  No cell of these rows narrows 'for every input' (looked for: loops, veiled, ifaces, maps, wideKeys, modest, calm, conditions, laid).
  DERIVED. THE GIVEN ROWS OF THIS SEAT. 13 by the template 'for every input the law returns true; each argument reads behind the call as it read before'; 0 by the template 'total and deterministic' (their statements: YtogiocinhjbdkaaTotals.lean).
  GIVEN WITH THE SEED: the statements are not yours to turn. If you find one false, say at which input.
  Laid BY PROGRAM, IN A SANDBOX (cutbox-rows.mjs): the forced cells as the released guide's own fill.sh prints them over the translation 5aa1512b12ad5299… (all of the seat's roots in one cut). By AI agents, Wed Nov 11 2026. No macro, syntax, notation, axiom, sorry.
-/
import Derived.Test.YtogiocinhjbdkaaChecked
import GoSem.Claim
import GoSem.ClaimJoined
import GoSem.ClaimMapViews
import Derived.JoinedTies
import Derived.KernelRfl
namespace Go.Proofs.Ytogiocinhjbdkaa
/- THE CELL 'sum', in the pinned program and in every row, IS THE sha256 OF THE DUMP (.gsa) THAT YtogiocinhjbdkaaProg.lean LOADS. Nothing in Lean hashes anything: it is a label: what it is worth is what the hold of that sum in a sandbox is worth. -/
noncomputable def Try.pinned : Pinned := { name := "ytogiocinhjbdkaa", sum := "5aa1512b12ad52992c59c30a16b776c38a89e36434e3afb8dc4028b78c132cce", checked := Try.checked }
namespace Rows
def none {H : Type} : Left H := { results := [], args := [] }

/-- 'laws.FnExactPiecesOk': WHATEVER THE INPUT: true; the input reads as it did. -/
def fnExactPiecesOkSpec : ChangeSpec := { name := "fnExactPiecesOk", fn := fun _ => fun
  | [d] => { results := [.lit (.bool true)], args := [d] }
  | _ => none }
def fnExactPiecesOkRow : OpenClaim := { program := "ytogiocinhjbdkaa", sum := "5aa1512b12ad52992c59c30a16b776c38a89e36434e3afb8dc4028b78c132cce", func := "loop.example/g03312/laws.FnExactPiecesOk", spec := "fnExactPiecesOk", unfollowed := true, recurses := true, apart := false }
def FnExactPiecesOkSaid : Prop := fnExactPiecesOkRow.holds Try.pinned (OpenSpec.ofChange fnExactPiecesOkSpec)

/-- ITS FALSE NEIGHBOUR: 'it returns false'. Refute it at one input. -/
def fnExactPiecesOkWrong : ChangeSpec := { name := "fnExactPiecesOk", fn := fun _ => fun
  | [d] => { results := [.lit (.bool false)], args := [d] }
  | _ => none }
def FnExactPiecesOkWrongFalsely : Prop := fnExactPiecesOkRow.holds Try.pinned (OpenSpec.ofChange fnExactPiecesOkWrong)

/-- 'laws.FnExactPiecesLength': WHATEVER THE INPUT: true; the input reads as it did. -/
def fnExactPiecesLengthSpec : ChangeSpec := { name := "fnExactPiecesLength", fn := fun _ => fun
  | [d] => { results := [.lit (.bool true)], args := [d] }
  | _ => none }
def fnExactPiecesLengthRow : OpenClaim := { program := "ytogiocinhjbdkaa", sum := "5aa1512b12ad52992c59c30a16b776c38a89e36434e3afb8dc4028b78c132cce", func := "loop.example/g03312/laws.FnExactPiecesLength", spec := "fnExactPiecesLength", unfollowed := true, recurses := true, apart := false }
def FnExactPiecesLengthSaid : Prop := fnExactPiecesLengthRow.holds Try.pinned (OpenSpec.ofChange fnExactPiecesLengthSpec)

/-- ITS FALSE NEIGHBOUR: 'it returns false'. Refute it at one input. -/
def fnExactPiecesLengthWrong : ChangeSpec := { name := "fnExactPiecesLength", fn := fun _ => fun
  | [d] => { results := [.lit (.bool false)], args := [d] }
  | _ => none }
def FnExactPiecesLengthWrongFalsely : Prop := fnExactPiecesLengthRow.holds Try.pinned (OpenSpec.ofChange fnExactPiecesLengthWrong)

/-- 'laws.FnExactRulesOk': WHATEVER THE INPUT: true; the input reads as it did. -/
def fnExactRulesOkSpec : ChangeSpec := { name := "fnExactRulesOk", fn := fun _ => fun
  | [d] => { results := [.lit (.bool true)], args := [d] }
  | _ => none }
def fnExactRulesOkRow : OpenClaim := { program := "ytogiocinhjbdkaa", sum := "5aa1512b12ad52992c59c30a16b776c38a89e36434e3afb8dc4028b78c132cce", func := "loop.example/g03312/laws.FnExactRulesOk", spec := "fnExactRulesOk", unfollowed := true, recurses := true, apart := false }
def FnExactRulesOkSaid : Prop := fnExactRulesOkRow.holds Try.pinned (OpenSpec.ofChange fnExactRulesOkSpec)

/-- ITS FALSE NEIGHBOUR: 'it returns false'. Refute it at one input. -/
def fnExactRulesOkWrong : ChangeSpec := { name := "fnExactRulesOk", fn := fun _ => fun
  | [d] => { results := [.lit (.bool false)], args := [d] }
  | _ => none }
def FnExactRulesOkWrongFalsely : Prop := fnExactRulesOkRow.holds Try.pinned (OpenSpec.ofChange fnExactRulesOkWrong)

/-- 'laws.FnExactFindRule': WHATEVER THE INPUT: true; the input reads as it did. -/
def fnExactFindRuleSpec : ChangeSpec := { name := "fnExactFindRule", fn := fun _ => fun
  | [d1, d2] => { results := [.lit (.bool true)], args := [d1, d2] }
  | _ => none }
def fnExactFindRuleRow : OpenClaim := { program := "ytogiocinhjbdkaa", sum := "5aa1512b12ad52992c59c30a16b776c38a89e36434e3afb8dc4028b78c132cce", func := "loop.example/g03312/laws.FnExactFindRule", spec := "fnExactFindRule", unfollowed := true, recurses := true, apart := false }
def FnExactFindRuleSaid : Prop := fnExactFindRuleRow.holds Try.pinned (OpenSpec.ofChange fnExactFindRuleSpec)

/-- ITS FALSE NEIGHBOUR: 'it returns false'. Refute it at one input. -/
def fnExactFindRuleWrong : ChangeSpec := { name := "fnExactFindRule", fn := fun _ => fun
  | [d1, d2] => { results := [.lit (.bool false)], args := [d1, d2] }
  | _ => none }
def FnExactFindRuleWrongFalsely : Prop := fnExactFindRuleRow.holds Try.pinned (OpenSpec.ofChange fnExactFindRuleWrong)

/-- 'laws.FnExactTakeBuffers': WHATEVER THE INPUT: true; the input reads as it did. -/
def fnExactTakeBuffersSpec : ChangeSpec := { name := "fnExactTakeBuffers", fn := fun _ => fun
  | [d1, d2] => { results := [.lit (.bool true)], args := [d1, d2] }
  | _ => none }
def fnExactTakeBuffersRow : OpenClaim := { program := "ytogiocinhjbdkaa", sum := "5aa1512b12ad52992c59c30a16b776c38a89e36434e3afb8dc4028b78c132cce", func := "loop.example/g03312/laws.FnExactTakeBuffers", spec := "fnExactTakeBuffers", unfollowed := true, recurses := true, apart := false }
def FnExactTakeBuffersSaid : Prop := fnExactTakeBuffersRow.holds Try.pinned (OpenSpec.ofChange fnExactTakeBuffersSpec)

/-- ITS FALSE NEIGHBOUR: 'it returns false'. Refute it at one input. -/
def fnExactTakeBuffersWrong : ChangeSpec := { name := "fnExactTakeBuffers", fn := fun _ => fun
  | [d1, d2] => { results := [.lit (.bool false)], args := [d1, d2] }
  | _ => none }
def FnExactTakeBuffersWrongFalsely : Prop := fnExactTakeBuffersRow.holds Try.pinned (OpenSpec.ofChange fnExactTakeBuffersWrong)

/-- 'laws.FnExactGiveBuffers': WHATEVER THE INPUT: true; the input reads as it did. -/
def fnExactGiveBuffersSpec : ChangeSpec := { name := "fnExactGiveBuffers", fn := fun _ => fun
  | [d1, d2] => { results := [.lit (.bool true)], args := [d1, d2] }
  | _ => none }
def fnExactGiveBuffersRow : OpenClaim := { program := "ytogiocinhjbdkaa", sum := "5aa1512b12ad52992c59c30a16b776c38a89e36434e3afb8dc4028b78c132cce", func := "loop.example/g03312/laws.FnExactGiveBuffers", spec := "fnExactGiveBuffers", unfollowed := true, recurses := true, apart := false }
def FnExactGiveBuffersSaid : Prop := fnExactGiveBuffersRow.holds Try.pinned (OpenSpec.ofChange fnExactGiveBuffersSpec)

/-- ITS FALSE NEIGHBOUR: 'it returns false'. Refute it at one input. -/
def fnExactGiveBuffersWrong : ChangeSpec := { name := "fnExactGiveBuffers", fn := fun _ => fun
  | [d1, d2] => { results := [.lit (.bool false)], args := [d1, d2] }
  | _ => none }
def FnExactGiveBuffersWrongFalsely : Prop := fnExactGiveBuffersRow.holds Try.pinned (OpenSpec.ofChange fnExactGiveBuffersWrong)

/-- 'laws.FnExactRetarget': WHATEVER THE INPUT: true; the input reads as it did. -/
def fnExactRetargetSpec : ChangeSpec := { name := "fnExactRetarget", fn := fun _ => fun
  | [d1, d2, d3] => { results := [.lit (.bool true)], args := [d1, d2, d3] }
  | _ => none }
def fnExactRetargetRow : OpenClaim := { program := "ytogiocinhjbdkaa", sum := "5aa1512b12ad52992c59c30a16b776c38a89e36434e3afb8dc4028b78c132cce", func := "loop.example/g03312/laws.FnExactRetarget", spec := "fnExactRetarget", apart := false }
def FnExactRetargetSaid : Prop := fnExactRetargetRow.holds Try.pinned (OpenSpec.ofChange fnExactRetargetSpec)

/-- ITS FALSE NEIGHBOUR: 'it returns false'. Refute it at one input. -/
def fnExactRetargetWrong : ChangeSpec := { name := "fnExactRetarget", fn := fun _ => fun
  | [d1, d2, d3] => { results := [.lit (.bool false)], args := [d1, d2, d3] }
  | _ => none }
def FnExactRetargetWrongFalsely : Prop := fnExactRetargetRow.holds Try.pinned (OpenSpec.ofChange fnExactRetargetWrong)

/-- 'laws.FnExactAddVlan': WHATEVER THE INPUT: true; the input reads as it did. -/
def fnExactAddVlanSpec : ChangeSpec := { name := "fnExactAddVlan", fn := fun _ => fun
  | [d1, d2] => { results := [.lit (.bool true)], args := [d1, d2] }
  | _ => none }
def fnExactAddVlanRow : OpenClaim := { program := "ytogiocinhjbdkaa", sum := "5aa1512b12ad52992c59c30a16b776c38a89e36434e3afb8dc4028b78c132cce", func := "loop.example/g03312/laws.FnExactAddVlan", spec := "fnExactAddVlan", unfollowed := true, recurses := true, apart := false }
def FnExactAddVlanSaid : Prop := fnExactAddVlanRow.holds Try.pinned (OpenSpec.ofChange fnExactAddVlanSpec)

/-- ITS FALSE NEIGHBOUR: 'it returns false'. Refute it at one input. -/
def fnExactAddVlanWrong : ChangeSpec := { name := "fnExactAddVlan", fn := fun _ => fun
  | [d1, d2] => { results := [.lit (.bool false)], args := [d1, d2] }
  | _ => none }
def FnExactAddVlanWrongFalsely : Prop := fnExactAddVlanRow.holds Try.pinned (OpenSpec.ofChange fnExactAddVlanWrong)

/-- 'laws.FnExactDropVlan': WHATEVER THE INPUT: true; the input reads as it did. -/
def fnExactDropVlanSpec : ChangeSpec := { name := "fnExactDropVlan", fn := fun _ => fun
  | [d1, d2] => { results := [.lit (.bool true)], args := [d1, d2] }
  | _ => none }
def fnExactDropVlanRow : OpenClaim := { program := "ytogiocinhjbdkaa", sum := "5aa1512b12ad52992c59c30a16b776c38a89e36434e3afb8dc4028b78c132cce", func := "loop.example/g03312/laws.FnExactDropVlan", spec := "fnExactDropVlan", unfollowed := true, recurses := true, apart := false }
def FnExactDropVlanSaid : Prop := fnExactDropVlanRow.holds Try.pinned (OpenSpec.ofChange fnExactDropVlanSpec)

/-- ITS FALSE NEIGHBOUR: 'it returns false'. Refute it at one input. -/
def fnExactDropVlanWrong : ChangeSpec := { name := "fnExactDropVlan", fn := fun _ => fun
  | [d1, d2] => { results := [.lit (.bool false)], args := [d1, d2] }
  | _ => none }
def FnExactDropVlanWrongFalsely : Prop := fnExactDropVlanRow.holds Try.pinned (OpenSpec.ofChange fnExactDropVlanWrong)

/-- 'laws.FnExactQueueLoads': WHATEVER THE INPUT: true; the input reads as it did. -/
def fnExactQueueLoadsSpec : ChangeSpec := { name := "fnExactQueueLoads", fn := fun _ => fun
  | [d1, d2, d3] => { results := [.lit (.bool true)], args := [d1, d2, d3] }
  | _ => none }
def fnExactQueueLoadsRow : OpenClaim := { program := "ytogiocinhjbdkaa", sum := "5aa1512b12ad52992c59c30a16b776c38a89e36434e3afb8dc4028b78c132cce", func := "loop.example/g03312/laws.FnExactQueueLoads", spec := "fnExactQueueLoads", unfollowed := true, recurses := true, apart := false }
def FnExactQueueLoadsSaid : Prop := fnExactQueueLoadsRow.holds Try.pinned (OpenSpec.ofChange fnExactQueueLoadsSpec)

/-- ITS FALSE NEIGHBOUR: 'it returns false'. Refute it at one input. -/
def fnExactQueueLoadsWrong : ChangeSpec := { name := "fnExactQueueLoads", fn := fun _ => fun
  | [d1, d2, d3] => { results := [.lit (.bool false)], args := [d1, d2, d3] }
  | _ => none }
def FnExactQueueLoadsWrongFalsely : Prop := fnExactQueueLoadsRow.holds Try.pinned (OpenSpec.ofChange fnExactQueueLoadsWrong)

/-- 'laws.FnExactHasReset': WHATEVER THE INPUT: true; the input reads as it did. -/
def fnExactHasResetSpec : ChangeSpec := { name := "fnExactHasReset", fn := fun _ => fun
  | [d] => { results := [.lit (.bool true)], args := [d] }
  | _ => none }
def fnExactHasResetRow : OpenClaim := { program := "ytogiocinhjbdkaa", sum := "5aa1512b12ad52992c59c30a16b776c38a89e36434e3afb8dc4028b78c132cce", func := "loop.example/g03312/laws.FnExactHasReset", spec := "fnExactHasReset", unfollowed := true, recurses := true, apart := false }
def FnExactHasResetSaid : Prop := fnExactHasResetRow.holds Try.pinned (OpenSpec.ofChange fnExactHasResetSpec)

/-- ITS FALSE NEIGHBOUR: 'it returns false'. Refute it at one input. -/
def fnExactHasResetWrong : ChangeSpec := { name := "fnExactHasReset", fn := fun _ => fun
  | [d] => { results := [.lit (.bool false)], args := [d] }
  | _ => none }
def FnExactHasResetWrongFalsely : Prop := fnExactHasResetRow.holds Try.pinned (OpenSpec.ofChange fnExactHasResetWrong)

/-- 'laws.FnExactPortsOk': WHATEVER THE INPUT: true; the input reads as it did. -/
def fnExactPortsOkSpec : ChangeSpec := { name := "fnExactPortsOk", fn := fun _ => fun
  | [d] => { results := [.lit (.bool true)], args := [d] }
  | _ => none }
def fnExactPortsOkRow : OpenClaim := { program := "ytogiocinhjbdkaa", sum := "5aa1512b12ad52992c59c30a16b776c38a89e36434e3afb8dc4028b78c132cce", func := "loop.example/g03312/laws.FnExactPortsOk", spec := "fnExactPortsOk", unfollowed := true, recurses := true, apart := false }
def FnExactPortsOkSaid : Prop := fnExactPortsOkRow.holds Try.pinned (OpenSpec.ofChange fnExactPortsOkSpec)

/-- ITS FALSE NEIGHBOUR: 'it returns false'. Refute it at one input. -/
def fnExactPortsOkWrong : ChangeSpec := { name := "fnExactPortsOk", fn := fun _ => fun
  | [d] => { results := [.lit (.bool false)], args := [d] }
  | _ => none }
def FnExactPortsOkWrongFalsely : Prop := fnExactPortsOkRow.holds Try.pinned (OpenSpec.ofChange fnExactPortsOkWrong)

/-- 'laws.FnExactMemoryOk': WHATEVER THE INPUT: true; the input reads as it did. -/
def fnExactMemoryOkSpec : ChangeSpec := { name := "fnExactMemoryOk", fn := fun _ => fun
  | [d] => { results := [.lit (.bool true)], args := [d] }
  | _ => none }
def fnExactMemoryOkRow : OpenClaim := { program := "ytogiocinhjbdkaa", sum := "5aa1512b12ad52992c59c30a16b776c38a89e36434e3afb8dc4028b78c132cce", func := "loop.example/g03312/laws.FnExactMemoryOk", spec := "fnExactMemoryOk", unfollowed := true, recurses := true, apart := false }
def FnExactMemoryOkSaid : Prop := fnExactMemoryOkRow.holds Try.pinned (OpenSpec.ofChange fnExactMemoryOkSpec)

/-- ITS FALSE NEIGHBOUR: 'it returns false'. Refute it at one input. -/
def fnExactMemoryOkWrong : ChangeSpec := { name := "fnExactMemoryOk", fn := fun _ => fun
  | [d] => { results := [.lit (.bool false)], args := [d] }
  | _ => none }
def FnExactMemoryOkWrongFalsely : Prop := fnExactMemoryOkRow.holds Try.pinned (OpenSpec.ofChange fnExactMemoryOkWrong)

/- THE SECOND FORM. 'bulk': how many values and letters a reading holds, each counted each time it is reached (what is shared counts as often as it is met; a slice's spare places count too). A statement '..UptoSaid' is the law's where the arguments, and the package variables that the reading takes, are together of bulk at most 1048576: NARROWER than '..Said'. Prove '..Said' where nothing that the law and all that it calls make is longer than what came in: it says more and counts as full. Else prove '..UptoSaid'. A law counts once. -/
mutual
def uptoBulk {H : Type} : DataW H → Nat
  | .lit (.string bytes) => bytes.length + 1
  | .lit _ => 1
  | .nil => 1
  | .ptr d => uptoBulk d + 1
  | .slice elems spare => uptoBulkAll elems + uptoBulkAll spare + 1
  | .agg parts => uptoBulkAll parts + 1
  | .iface _ d => uptoBulk d + 1
  | .map entries => uptoBulkEntries entries + 1
  | .held _ => 1
def uptoBulkAll {H : Type} : List (DataW H) → Nat
  | [] => 0
  | d :: r => uptoBulk d + uptoBulkAll r
def uptoBulkEntries {H : Type} : List (Lit × DataW H) → Nat
  | [] => 0
  | x :: r => uptoBulkEntry x + uptoBulkEntries r
def uptoBulkEntry {H : Type} : Lit × DataW H → Nat
  | (.string bytes, d) => bytes.length + uptoBulk d + 1
  | (_, d) => uptoBulk d + 1
 end
def uptoSmall : (H : Type) → List (DataW H) → Bool := fun _ ds => decide (uptoBulkAll ds ≤ 1048576)
def OpenSpec.upto (s : _root_.Go.ChangeSpec) : _root_.Go.OpenSpec := { _root_.Go.OpenSpec.ofChange s with cond := some uptoSmall }

/-- 'laws.FnExactPiecesOk', WHERE WHAT IT READS IS OF BULK AT MOST 1048576: true; the input reads as it did. -/
def fnExactPiecesOkUptoRow : OpenClaim := { program := "ytogiocinhjbdkaa", sum := "5aa1512b12ad52992c59c30a16b776c38a89e36434e3afb8dc4028b78c132cce", func := "loop.example/g03312/laws.FnExactPiecesOk", spec := "fnExactPiecesOk", unfollowed := true, recurses := true, apart := false, narrowed := true }
def FnExactPiecesOkUptoSaid : Prop := fnExactPiecesOkUptoRow.holds Try.pinned (OpenSpec.upto fnExactPiecesOkSpec)

/-- 'laws.FnExactPiecesLength', WHERE WHAT IT READS IS OF BULK AT MOST 1048576: true; the input reads as it did. -/
def fnExactPiecesLengthUptoRow : OpenClaim := { program := "ytogiocinhjbdkaa", sum := "5aa1512b12ad52992c59c30a16b776c38a89e36434e3afb8dc4028b78c132cce", func := "loop.example/g03312/laws.FnExactPiecesLength", spec := "fnExactPiecesLength", unfollowed := true, recurses := true, apart := false, narrowed := true }
def FnExactPiecesLengthUptoSaid : Prop := fnExactPiecesLengthUptoRow.holds Try.pinned (OpenSpec.upto fnExactPiecesLengthSpec)

/-- 'laws.FnExactRulesOk', WHERE WHAT IT READS IS OF BULK AT MOST 1048576: true; the input reads as it did. -/
def fnExactRulesOkUptoRow : OpenClaim := { program := "ytogiocinhjbdkaa", sum := "5aa1512b12ad52992c59c30a16b776c38a89e36434e3afb8dc4028b78c132cce", func := "loop.example/g03312/laws.FnExactRulesOk", spec := "fnExactRulesOk", unfollowed := true, recurses := true, apart := false, narrowed := true }
def FnExactRulesOkUptoSaid : Prop := fnExactRulesOkUptoRow.holds Try.pinned (OpenSpec.upto fnExactRulesOkSpec)

/-- 'laws.FnExactFindRule', WHERE WHAT IT READS IS OF BULK AT MOST 1048576: true; the input reads as it did. -/
def fnExactFindRuleUptoRow : OpenClaim := { program := "ytogiocinhjbdkaa", sum := "5aa1512b12ad52992c59c30a16b776c38a89e36434e3afb8dc4028b78c132cce", func := "loop.example/g03312/laws.FnExactFindRule", spec := "fnExactFindRule", unfollowed := true, recurses := true, apart := false, narrowed := true }
def FnExactFindRuleUptoSaid : Prop := fnExactFindRuleUptoRow.holds Try.pinned (OpenSpec.upto fnExactFindRuleSpec)

/-- 'laws.FnExactTakeBuffers', WHERE WHAT IT READS IS OF BULK AT MOST 1048576: true; the input reads as it did. -/
def fnExactTakeBuffersUptoRow : OpenClaim := { program := "ytogiocinhjbdkaa", sum := "5aa1512b12ad52992c59c30a16b776c38a89e36434e3afb8dc4028b78c132cce", func := "loop.example/g03312/laws.FnExactTakeBuffers", spec := "fnExactTakeBuffers", unfollowed := true, recurses := true, apart := false, narrowed := true }
def FnExactTakeBuffersUptoSaid : Prop := fnExactTakeBuffersUptoRow.holds Try.pinned (OpenSpec.upto fnExactTakeBuffersSpec)

/-- 'laws.FnExactGiveBuffers', WHERE WHAT IT READS IS OF BULK AT MOST 1048576: true; the input reads as it did. -/
def fnExactGiveBuffersUptoRow : OpenClaim := { program := "ytogiocinhjbdkaa", sum := "5aa1512b12ad52992c59c30a16b776c38a89e36434e3afb8dc4028b78c132cce", func := "loop.example/g03312/laws.FnExactGiveBuffers", spec := "fnExactGiveBuffers", unfollowed := true, recurses := true, apart := false, narrowed := true }
def FnExactGiveBuffersUptoSaid : Prop := fnExactGiveBuffersUptoRow.holds Try.pinned (OpenSpec.upto fnExactGiveBuffersSpec)

/-- 'laws.FnExactRetarget', WHERE WHAT IT READS IS OF BULK AT MOST 1048576: true; the input reads as it did. -/
def fnExactRetargetUptoRow : OpenClaim := { program := "ytogiocinhjbdkaa", sum := "5aa1512b12ad52992c59c30a16b776c38a89e36434e3afb8dc4028b78c132cce", func := "loop.example/g03312/laws.FnExactRetarget", spec := "fnExactRetarget", apart := false, narrowed := true }
def FnExactRetargetUptoSaid : Prop := fnExactRetargetUptoRow.holds Try.pinned (OpenSpec.upto fnExactRetargetSpec)

/-- 'laws.FnExactAddVlan', WHERE WHAT IT READS IS OF BULK AT MOST 1048576: true; the input reads as it did. -/
def fnExactAddVlanUptoRow : OpenClaim := { program := "ytogiocinhjbdkaa", sum := "5aa1512b12ad52992c59c30a16b776c38a89e36434e3afb8dc4028b78c132cce", func := "loop.example/g03312/laws.FnExactAddVlan", spec := "fnExactAddVlan", unfollowed := true, recurses := true, apart := false, narrowed := true }
def FnExactAddVlanUptoSaid : Prop := fnExactAddVlanUptoRow.holds Try.pinned (OpenSpec.upto fnExactAddVlanSpec)

/-- 'laws.FnExactDropVlan', WHERE WHAT IT READS IS OF BULK AT MOST 1048576: true; the input reads as it did. -/
def fnExactDropVlanUptoRow : OpenClaim := { program := "ytogiocinhjbdkaa", sum := "5aa1512b12ad52992c59c30a16b776c38a89e36434e3afb8dc4028b78c132cce", func := "loop.example/g03312/laws.FnExactDropVlan", spec := "fnExactDropVlan", unfollowed := true, recurses := true, apart := false, narrowed := true }
def FnExactDropVlanUptoSaid : Prop := fnExactDropVlanUptoRow.holds Try.pinned (OpenSpec.upto fnExactDropVlanSpec)

/-- 'laws.FnExactQueueLoads', WHERE WHAT IT READS IS OF BULK AT MOST 1048576: true; the input reads as it did. -/
def fnExactQueueLoadsUptoRow : OpenClaim := { program := "ytogiocinhjbdkaa", sum := "5aa1512b12ad52992c59c30a16b776c38a89e36434e3afb8dc4028b78c132cce", func := "loop.example/g03312/laws.FnExactQueueLoads", spec := "fnExactQueueLoads", unfollowed := true, recurses := true, apart := false, narrowed := true }
def FnExactQueueLoadsUptoSaid : Prop := fnExactQueueLoadsUptoRow.holds Try.pinned (OpenSpec.upto fnExactQueueLoadsSpec)

/-- 'laws.FnExactHasReset', WHERE WHAT IT READS IS OF BULK AT MOST 1048576: true; the input reads as it did. -/
def fnExactHasResetUptoRow : OpenClaim := { program := "ytogiocinhjbdkaa", sum := "5aa1512b12ad52992c59c30a16b776c38a89e36434e3afb8dc4028b78c132cce", func := "loop.example/g03312/laws.FnExactHasReset", spec := "fnExactHasReset", unfollowed := true, recurses := true, apart := false, narrowed := true }
def FnExactHasResetUptoSaid : Prop := fnExactHasResetUptoRow.holds Try.pinned (OpenSpec.upto fnExactHasResetSpec)

/-- 'laws.FnExactPortsOk', WHERE WHAT IT READS IS OF BULK AT MOST 1048576: true; the input reads as it did. -/
def fnExactPortsOkUptoRow : OpenClaim := { program := "ytogiocinhjbdkaa", sum := "5aa1512b12ad52992c59c30a16b776c38a89e36434e3afb8dc4028b78c132cce", func := "loop.example/g03312/laws.FnExactPortsOk", spec := "fnExactPortsOk", unfollowed := true, recurses := true, apart := false, narrowed := true }
def FnExactPortsOkUptoSaid : Prop := fnExactPortsOkUptoRow.holds Try.pinned (OpenSpec.upto fnExactPortsOkSpec)

/-- 'laws.FnExactMemoryOk', WHERE WHAT IT READS IS OF BULK AT MOST 1048576: true; the input reads as it did. -/
def fnExactMemoryOkUptoRow : OpenClaim := { program := "ytogiocinhjbdkaa", sum := "5aa1512b12ad52992c59c30a16b776c38a89e36434e3afb8dc4028b78c132cce", func := "loop.example/g03312/laws.FnExactMemoryOk", spec := "fnExactMemoryOk", unfollowed := true, recurses := true, apart := false, narrowed := true }
def FnExactMemoryOkUptoSaid : Prop := fnExactMemoryOkUptoRow.holds Try.pinned (OpenSpec.upto fnExactMemoryOkSpec)

end Rows
end Go.Proofs.Ytogiocinhjbdkaa
