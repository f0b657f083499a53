/- Texts of one claim, merged. -/
import Derived.Test.YtogiocinhjbdkaaPktMath
import Derived.Test.YtogiocinhjbdkaaFlatMath
import Derived.Test.YtogiocinhjbdkaaSupMath
import Derived.Test.YtogiocinhjbdkaaBoxes
import Derived.Test.YtogiocinhjbdkaaRowInt
import Derived.Test.YtogiocinhjbdkaaApp
import Derived.Test.YtogiocinhjbdkaaQueueB
import Derived.Test.YtogiocinhjbdkaaIntConv
import Derived.Test.YtogiocinhjbdkaaCloneInt
import Derived.Test.YtogiocinhjbdkaaRowFlowDef
import Derived.Laws.MakeOwn
import Derived.Deep.DeepCutAuto
import Derived.Deep.RegionWith
import Derived.Test.YtogiocinhjbdkaaRegionS
import Derived.Test.YtogiocinhjbdkaaBase
import Derived.Lib.SmallJoins
import Derived.Deep.Fields
import Derived.OpenShut
import Derived.ShutString
import Derived.ChangeOld
import Derived.Test.YtogiocinhjbdkaaRows2
import Derived.Deep.Slices
import Derived.Test.YtogiocinhjbdkaaEthMath
import Derived.Laws.OwnMore
import Derived.Test.YtogiocinhjbdkaaKit
import Derived.StillTailTactics
/- Steps on a flash memory: models. -/
namespace Go.Proofs.Ytogiocinhjbdkaa
structure StepM where
  kind : Int
  bank : Int
  at_ : Int
  body : ByteArray
def StepM.val (e : StepM) : Value := .agg #[.int .i64 e.kind, .int .i64 e.bank, .int .i64 e.at_, .string e.body]
def StepM.Wf (e : StepM) : Prop := I64 e.kind ∧ I64 e.bank ∧ I64 e.at_ ∧ e.body.size ≤ maxLen
def StepM.Ok (e : StepM) : Prop := (0 ≤ e.bank ∧ e.bank ≤ 1) ∧ ((e.kind = 0 ∧ e.at_ = 0 ∧ e.body.size = 0) ∨ (e.kind = 1 ∧ (1 ≤ e.body.size ∧ e.body.size ≤ 8) ∧ (0 ≤ e.at_ ∧ e.at_ ≤ 96 - e.body.size)))
instance instDecStepOk (e : StepM) : Decidable e.Ok := by unfold StepM.Ok; infer_instance
end Go.Proofs.Ytogiocinhjbdkaa

/- Structs with structs and strings inside: their fields and their value. -/
namespace Go.Proofs.Ytogiocinhjbdkaa
structure StreamM where
  xFlow : FlowM
  xNext : Int
  xData : ByteArray
  xDone : Bool
def StreamM.val (e : StreamM) : Value := .agg #[.int .i64 e.xFlow.kind, .int .i64 e.xFlow.sip, .int .i64 e.xFlow.dip, .int .i64 e.xFlow.sport, .int .i64 e.xFlow.dport, .int .i64 e.xNext, .string e.xData, .bool e.xDone]
def StreamM.Wf (e : StreamM) : Prop := I64 e.xFlow.kind ∧ I64 e.xFlow.sip ∧ I64 e.xFlow.dip ∧ I64 e.xFlow.sport ∧ I64 e.xFlow.dport ∧ I64 e.xNext ∧ e.xData.size ≤ maxLen
structure SlotM where
  xState : Int
  xFlow : FlowM
  xQueue : Int
def SlotM.val (e : SlotM) : Value := .agg #[.int .i64 e.xState, .int .i64 e.xFlow.kind, .int .i64 e.xFlow.sip, .int .i64 e.xFlow.dip, .int .i64 e.xFlow.sport, .int .i64 e.xFlow.dport, .int .i64 e.xQueue]
def SlotM.Wf (e : SlotM) : Prop := I64 e.xState ∧ I64 e.xFlow.kind ∧ I64 e.xFlow.sip ∧ I64 e.xFlow.dip ∧ I64 e.xFlow.sport ∧ I64 e.xFlow.dport ∧ I64 e.xQueue
structure RxQueueM where
  xRing : RingM
  xDevice : CompletionQueueM
  xDriver : CompletionQueueM
  xHeld : SupM
  xHolding : Bool
  xDropped : Int
def RxQueueM.val (e : RxQueueM) : Value := .agg #[.int .i64 e.xRing.xBase, .int .i64 e.xRing.xSize, .int .i64 e.xRing.xHead, .int .i64 e.xRing.xTail, .int .i64 e.xDevice.xBase, .int .i64 e.xDevice.xSize, .int .i64 e.xDevice.xCount, .int .i64 e.xDriver.xBase, .int .i64 e.xDriver.xSize, .int .i64 e.xDriver.xCount, .int .i64 e.xHeld.pkt.dmac, .int .i64 e.xHeld.pkt.smac, .int .i64 e.xHeld.pkt.vlan, .int .i64 e.xHeld.pkt.tos, .int .i64 e.xHeld.pkt.id, .int .i64 e.xHeld.pkt.ttl, .int .i64 e.xHeld.pkt.sip, .int .i64 e.xHeld.pkt.dip, .int .i64 e.xHeld.pkt.seg.kind, .int .i64 e.xHeld.pkt.seg.sport, .int .i64 e.xHeld.pkt.seg.dport, .int .i64 e.xHeld.pkt.seg.seq, .int .i64 e.xHeld.pkt.seg.ack, .int .i64 e.xHeld.pkt.seg.flags, .int .i64 e.xHeld.pkt.seg.window, .string e.xHeld.pkt.seg.body, .int .i64 e.xHeld.size, .int .i64 e.xHeld.count, .bool e.xHolding, .int .i64 e.xDropped]
def RxQueueM.Wf (e : RxQueueM) : Prop := I64 e.xRing.xBase ∧ I64 e.xRing.xSize ∧ I64 e.xRing.xHead ∧ I64 e.xRing.xTail ∧ I64 e.xDevice.xBase ∧ I64 e.xDevice.xSize ∧ I64 e.xDevice.xCount ∧ I64 e.xDriver.xBase ∧ I64 e.xDriver.xSize ∧ I64 e.xDriver.xCount ∧ I64 e.xHeld.pkt.dmac ∧ I64 e.xHeld.pkt.smac ∧ I64 e.xHeld.pkt.vlan ∧ I64 e.xHeld.pkt.tos ∧ I64 e.xHeld.pkt.id ∧ I64 e.xHeld.pkt.ttl ∧ I64 e.xHeld.pkt.sip ∧ I64 e.xHeld.pkt.dip ∧ I64 e.xHeld.pkt.seg.kind ∧ I64 e.xHeld.pkt.seg.sport ∧ I64 e.xHeld.pkt.seg.dport ∧ I64 e.xHeld.pkt.seg.seq ∧ I64 e.xHeld.pkt.seg.ack ∧ I64 e.xHeld.pkt.seg.flags ∧ I64 e.xHeld.pkt.seg.window ∧ e.xHeld.pkt.seg.body.size ≤ maxLen ∧ I64 e.xHeld.size ∧ I64 e.xHeld.count ∧ I64 e.xDropped
structure VirtualFunctionM where
  xDomain : Int
  xPort : Int
  xBucket : BucketM
  xEnabled : Bool
  xSent : Int
  xRefused : Int
def VirtualFunctionM.val (e : VirtualFunctionM) : Value := .agg #[.int .i64 e.xDomain, .int .i64 e.xPort, .int .i64 e.xBucket.xRate, .int .i64 e.xBucket.xBurst, .int .i64 e.xBucket.xTokens, .bool e.xEnabled, .int .i64 e.xSent, .int .i64 e.xRefused]
def VirtualFunctionM.Wf (e : VirtualFunctionM) : Prop := I64 e.xDomain ∧ I64 e.xPort ∧ I64 e.xBucket.xRate ∧ I64 e.xBucket.xBurst ∧ I64 e.xBucket.xTokens ∧ I64 e.xSent ∧ I64 e.xRefused
structure ActM where
  xKind : Int
  xPacket : PktM
  xSize : Int
  xCut : Int
  xFrame : ByteArray
  xBudget : Int
def ActM.val (e : ActM) : Value := .agg #[.int .i64 e.xKind, .int .i64 e.xPacket.dmac, .int .i64 e.xPacket.smac, .int .i64 e.xPacket.vlan, .int .i64 e.xPacket.tos, .int .i64 e.xPacket.id, .int .i64 e.xPacket.ttl, .int .i64 e.xPacket.sip, .int .i64 e.xPacket.dip, .int .i64 e.xPacket.seg.kind, .int .i64 e.xPacket.seg.sport, .int .i64 e.xPacket.seg.dport, .int .i64 e.xPacket.seg.seq, .int .i64 e.xPacket.seg.ack, .int .i64 e.xPacket.seg.flags, .int .i64 e.xPacket.seg.window, .string e.xPacket.seg.body, .int .i64 e.xSize, .int .i64 e.xCut, .string e.xFrame, .int .i64 e.xBudget]
def ActM.Wf (e : ActM) : Prop := I64 e.xKind ∧ I64 e.xPacket.dmac ∧ I64 e.xPacket.smac ∧ I64 e.xPacket.vlan ∧ I64 e.xPacket.tos ∧ I64 e.xPacket.id ∧ I64 e.xPacket.ttl ∧ I64 e.xPacket.sip ∧ I64 e.xPacket.dip ∧ I64 e.xPacket.seg.kind ∧ I64 e.xPacket.seg.sport ∧ I64 e.xPacket.seg.dport ∧ I64 e.xPacket.seg.seq ∧ I64 e.xPacket.seg.ack ∧ I64 e.xPacket.seg.flags ∧ I64 e.xPacket.seg.window ∧ e.xPacket.seg.body.size ≤ maxLen ∧ I64 e.xSize ∧ I64 e.xCut ∧ e.xFrame.size ≤ maxLen ∧ I64 e.xBudget
structure CardActM where
  xKind : Int
  xFunction : Int
  xAct : ActM
  xMessage : MessageM
  xImage : ByteArray
  xPart : Int
def CardActM.val (e : CardActM) : Value := .agg #[.int .i64 e.xKind, .int .i64 e.xFunction, .int .i64 e.xAct.xKind, .int .i64 e.xAct.xPacket.dmac, .int .i64 e.xAct.xPacket.smac, .int .i64 e.xAct.xPacket.vlan, .int .i64 e.xAct.xPacket.tos, .int .i64 e.xAct.xPacket.id, .int .i64 e.xAct.xPacket.ttl, .int .i64 e.xAct.xPacket.sip, .int .i64 e.xAct.xPacket.dip, .int .i64 e.xAct.xPacket.seg.kind, .int .i64 e.xAct.xPacket.seg.sport, .int .i64 e.xAct.xPacket.seg.dport, .int .i64 e.xAct.xPacket.seg.seq, .int .i64 e.xAct.xPacket.seg.ack, .int .i64 e.xAct.xPacket.seg.flags, .int .i64 e.xAct.xPacket.seg.window, .string e.xAct.xPacket.seg.body, .int .i64 e.xAct.xSize, .int .i64 e.xAct.xCut, .string e.xAct.xFrame, .int .i64 e.xAct.xBudget, .int .i64 e.xMessage.xSeq, .int .i64 e.xMessage.xOp, .int .i64 e.xMessage.xArg, .string e.xImage, .int .i64 e.xPart]
def CardActM.Wf (e : CardActM) : Prop := I64 e.xKind ∧ I64 e.xFunction ∧ I64 e.xAct.xKind ∧ I64 e.xAct.xPacket.dmac ∧ I64 e.xAct.xPacket.smac ∧ I64 e.xAct.xPacket.vlan ∧ I64 e.xAct.xPacket.tos ∧ I64 e.xAct.xPacket.id ∧ I64 e.xAct.xPacket.ttl ∧ I64 e.xAct.xPacket.sip ∧ I64 e.xAct.xPacket.dip ∧ I64 e.xAct.xPacket.seg.kind ∧ I64 e.xAct.xPacket.seg.sport ∧ I64 e.xAct.xPacket.seg.dport ∧ I64 e.xAct.xPacket.seg.seq ∧ I64 e.xAct.xPacket.seg.ack ∧ I64 e.xAct.xPacket.seg.flags ∧ I64 e.xAct.xPacket.seg.window ∧ e.xAct.xPacket.seg.body.size ≤ maxLen ∧ I64 e.xAct.xSize ∧ I64 e.xAct.xCut ∧ e.xAct.xFrame.size ≤ maxLen ∧ I64 e.xAct.xBudget ∧ I64 e.xMessage.xSeq ∧ I64 e.xMessage.xOp ∧ I64 e.xMessage.xArg ∧ e.xImage.size ≤ maxLen ∧ I64 e.xPart
end Go.Proofs.Ytogiocinhjbdkaa

/- Spread: what its values stand for; the laws' eq, mark, held. -/
namespace Go.Proofs.Ytogiocinhjbdkaa
open Go.RowKit
set_option linter.unusedSimpArgs false
set_option linter.unusedVariables false

structure SpreadM where
  xKey : ByteArray
  xTable : List Int
/-- How many marks it takes. -/
def SpreadM.cnt (e : SpreadM) : Nat := e.xTable.length * 1
/-- The marks from q on. -/
def SpreadM.mkd (e : SpreadM) (q : Nat) : SpreadM := { e with xTable := intrMs (q) e.xTable.length }
/-- What a value of the type stands for; the blocks of S hold its rows. -/
def SpreadM.Rep (W : World) (S : Nat → Prop) (e : SpreadM) (v : Value) : Prop := ∃ (S1 : Nat → Prop) (v1 : Value), v = .agg #[.string e.xKey, v1] ∧ Row W S1 3 1 v1 (e.xTable.map intrA) ∧ (∀ k, S1 k → S k)
theorem SpreadM.Rep.keep {W W' : World} {S : Nat → Prop} {e : SpreadM} {v : Value} (h : SpreadM.Rep W S e v) (hk : ∀ b, S b → b < W.heap.size → W'.heap[b]? = W.heap[b]?) : SpreadM.Rep W' S e v := by
  obtain ⟨S1, v1, rfl, R1, hS1⟩ := h
  exact ⟨S1, _, rfl, R1.keep (fun b hb hl => hk b (hS1 b hb) hl), hS1⟩
theorem SpreadM.Rep.later {W W' : World} {S : Nat → Prop} {e : SpreadM} {v : Value} (h : SpreadM.Rep W S e v) (hb : Below W.heap.size W W') : SpreadM.Rep W' S e v := h.keep fun b _ hl => hb.block b hl
theorem SpreadM.Rep.touch {W W' : World} {S : Nat → Prop} {e : SpreadM} {v : Value} {S' : Nat → Prop} (h : SpreadM.Rep W S e v) (ht : Touch W W' S') (hd : ∀ k, S k → ¬ S' k) : SpreadM.Rep W' S e v := h.keep fun b hS hl => ht.block b hl (hd b hS)
theorem SpreadM.Rep.mono {W W' : World} {S : Nat → Prop} {e : SpreadM} {v : Value} {S' : Nat → Prop} (h : SpreadM.Rep W S e v) (hS : ∀ k, S k → S' k) : SpreadM.Rep W S' e v := by
  obtain ⟨S1, v1, rfl, R1, hS1⟩ := h
  exact ⟨S1, _, rfl, R1, fun k hk => hS k (hS1 k hk)⟩
set_option maxHeartbeats 4000000 in
set_option maxRecDepth 100000 in
theorem eq_spread (w : World) (Sa Sb : Nat → Prop) (e : SpreadM) (va vb : Value) (hn0 : e.xTable.length ≤ 2097152) (ha : SpreadM.Rep w Sa e va) (hb : SpreadM.Rep w Sb e vb) :
    Calls Try.prog 49 #[va, vb] w fun r w' => r = .returned (.bool true) ∧ Below w.heap.size w w' := by
  obtain ⟨S1x, v1x, rfl, R1x, hS1x⟩ := ha
  obtain ⟨a1x, n1x, p1x, rfl⟩ := R1x.form
  obtain ⟨S1y, v1y, rfl, R1y, hS1y⟩ := hb
  obtain ⟨a1y, n1y, p1y, rfl⟩ := R1y.form
  have HX1 := Lib.hid R1x
  have HY1 := Lib.hid R1y
  have HC : True := trivial
  clear R1x R1y
  go_enter Try.func49, Try.ntmps49
  go_wp2_with fail
  refine (eq_intrs _ _ _ _ _ _ _ e.xTable (by have := hn0; omega) (HX1.out.later (by repeat (first | ((with_reducible refine Below.setCell ?_ ?_ _); rotate_left; first | omega | (dsimp only; omega) | (simp; done) | (simp; omega)) | ((with_reducible refine below_setRow ?_ ?_ _); rotate_left; first | omega | (dsimp only; omega) | (simp; done) | (simp; omega)) | with_reducible exact Below.refl _ _ | with_reducible exact below_new _ | with_reducible exact below_drew | with_reducible exact HB9.out | with_reducible exact HB8.out | with_reducible exact HB7.out | with_reducible exact HB6.out | with_reducible exact HB5.out | with_reducible exact HB4.out | with_reducible exact HB3.out | with_reducible exact HB2.out | with_reducible exact HB1.out | (with_reducible apply below_comp; rotate_left; first | with_reducible exact HB9.out | with_reducible exact HB8.out | with_reducible exact HB7.out | with_reducible exact HB6.out | with_reducible exact HB5.out | with_reducible exact HB4.out | with_reducible exact HB3.out | with_reducible exact HB2.out | with_reducible exact HB1.out | with_reducible assumption | with_reducible exact below_new _ | with_reducible exact below_drew)))) (HY1.out.later (by repeat (first | ((with_reducible refine Below.setCell ?_ ?_ _); rotate_left; first | omega | (dsimp only; omega) | (simp; done) | (simp; omega)) | ((with_reducible refine below_setRow ?_ ?_ _); rotate_left; first | omega | (dsimp only; omega) | (simp; done) | (simp; omega)) | with_reducible exact Below.refl _ _ | with_reducible exact below_new _ | with_reducible exact below_drew | with_reducible exact HB9.out | with_reducible exact HB8.out | with_reducible exact HB7.out | with_reducible exact HB6.out | with_reducible exact HB5.out | with_reducible exact HB4.out | with_reducible exact HB3.out | with_reducible exact HB2.out | with_reducible exact HB1.out | (with_reducible apply below_comp; rotate_left; first | with_reducible exact HB9.out | with_reducible exact HB8.out | with_reducible exact HB7.out | with_reducible exact HB6.out | with_reducible exact HB5.out | with_reducible exact HB4.out | with_reducible exact HB3.out | with_reducible exact HB2.out | with_reducible exact HB1.out | with_reducible assumption | with_reducible exact below_new _ | with_reducible exact below_drew))))).mono ?_
  rintro r w1 ⟨rfl, hb1⟩
  have hz1 := hb1.size
  (try simp at hz1)
  (have hl0 : w.heap.size < w1.heap.size := by omega)
  (have hl1 : w.heap.size + 1 < w1.heap.size := by omega)
  (apply with_box hb1 (g := w.heap.size))
  (focus (repeat (first | (with_reducible exact HP0.out) | (with_reducible exact HP1.out) | (with_reducible exact HP2.out) | (with_reducible exact HP3.out) | (with_reducible exact HQ0.out) | (with_reducible exact HQ1.out) | (with_reducible exact HQ2.out) | (with_reducible exact HQ3.out) | (with_reducible apply Box.new) | (with_reducible apply Box.newAt; simp; done) | (with_reducible apply Box.set) | (with_reducible apply Box.skip; omega) | (with_reducible apply Box.alloc) | (with_reducible apply Box.drew) | (with_reducible apply Box.row) | (with_reducible apply Box.skipRow; omega))))
  intro hx0
  (try simp only [List.setIfInBounds_toArray, List.set_cons_zero, List.set_cons_succ] at hx0)
  have k0_0 := hx0.cell 0 (by simp)
  have k0_1 := hx0.cell 1 (by simp)
  have fr0 := fun o => hx0.frozen o
  (try simp only [List.getElem_toArray, List.getElem_cons_zero, List.getElem_cons_succ] at k0_0)
  (try simp only [List.getElem_toArray, List.getElem_cons_zero, List.getElem_cons_succ] at k0_1)
  (apply with_box hb1 (g := w.heap.size + 1))
  (focus (repeat (first | (with_reducible exact HP0.out) | (with_reducible exact HP1.out) | (with_reducible exact HP2.out) | (with_reducible exact HP3.out) | (with_reducible exact HQ0.out) | (with_reducible exact HQ1.out) | (with_reducible exact HQ2.out) | (with_reducible exact HQ3.out) | (with_reducible apply Box.new) | (with_reducible apply Box.newAt; simp; done) | (with_reducible apply Box.set) | (with_reducible apply Box.skip; omega) | (with_reducible apply Box.alloc) | (with_reducible apply Box.drew) | (with_reducible apply Box.row) | (with_reducible apply Box.skipRow; omega))))
  intro hx1
  (try simp only [List.setIfInBounds_toArray, List.set_cons_zero, List.set_cons_succ] at hx1)
  have k1_0 := hx1.cell 0 (by simp)
  have k1_1 := hx1.cell 1 (by simp)
  have fr1 := fun o => hx1.frozen o
  (try simp only [List.getElem_toArray, List.getElem_cons_zero, List.getElem_cons_succ] at k1_0)
  (try simp only [List.getElem_toArray, List.getElem_cons_zero, List.getElem_cons_succ] at k1_1)
  skip
  have HP0 := Lib.hid hx0
  clear hx0
  have HP1 := Lib.hid hx1
  clear hx1
  have HB1 := Lib.hid hb1
  clear hb1
  go_wp2
  go_ret
  refine ⟨rfl, ?_⟩
  repeat (first | ((with_reducible refine Below.setCell ?_ ?_ _); rotate_left; first | omega | (dsimp only; omega) | (simp; done) | (simp; omega)) | ((with_reducible refine below_setRow ?_ ?_ _); rotate_left; first | omega | (dsimp only; omega) | (simp; done) | (simp; omega)) | with_reducible exact Below.refl _ _ | with_reducible exact below_new _ | with_reducible exact below_drew | with_reducible exact HB9.out | with_reducible exact HB8.out | with_reducible exact HB7.out | with_reducible exact HB6.out | with_reducible exact HB5.out | with_reducible exact HB4.out | with_reducible exact HB3.out | with_reducible exact HB2.out | with_reducible exact HB1.out | (with_reducible apply below_comp; rotate_left; first | with_reducible exact HB9.out | with_reducible exact HB8.out | with_reducible exact HB7.out | with_reducible exact HB6.out | with_reducible exact HB5.out | with_reducible exact HB4.out | with_reducible exact HB3.out | with_reducible exact HB2.out | with_reducible exact HB1.out | with_reducible assumption | with_reducible exact below_new _ | with_reducible exact below_drew))
set_option maxHeartbeats 4000000 in
set_option maxRecDepth 100000 in
theorem mark_spread (w : World) (S : Nat → Prop) (q : Nat) (e : SpreadM) (v : Value) (hn0 : e.xTable.length ≤ 2097152) (hq1 : 1 ≤ q) (hq : q + e.cnt ≤ 500000000) (hS : ∀ k, S k → k < w.heap.size) (h : SpreadM.Rep w S e v) :
    Calls Try.prog 50 #[v, .int .i64 q] w fun r w' => r = .returned (.int .i64 ((q + e.cnt : Nat) : Int)) ∧ SpreadM.Rep w' S (e.mkd q) v ∧ Touch w w' S := by
  obtain ⟨S1x, v1x, rfl, R1x, hS1x⟩ := h
  obtain ⟨a1x, n1x, p1x, rfl⟩ := R1x.form
  unfold SpreadM.cnt SpreadM.mkd at *
  try dsimp only at *
  have HX1 := Lib.hid R1x
  clear R1x
  go_enter Try.func50, Try.ntmps50
  go_wp2_with fail
  refine (mark_intrs _ S1x (q) _ e.xTable (by have := hn0; omega) (by omega) (by omega) (HX1.out.keep (fun b hb hl => by exact (show Below w.heap.size w _ by repeat (first | ((with_reducible refine Below.setCell ?_ ?_ _); rotate_left; first | omega | (dsimp only; omega) | (simp; done) | (simp; omega)) | ((with_reducible refine below_setRow ?_ ?_ _); rotate_left; first | omega | (dsimp only; omega) | (simp; done) | (simp; omega)) | with_reducible exact Below.refl _ _ | with_reducible exact below_new _ | with_reducible exact below_drew | with_reducible exact HB9.out | with_reducible exact HB8.out | with_reducible exact HB7.out | with_reducible exact HB6.out | with_reducible exact HB5.out | with_reducible exact HB4.out | with_reducible exact HB3.out | with_reducible exact HB2.out | with_reducible exact HB1.out | (with_reducible apply below_comp; rotate_left; first | with_reducible exact HB9.out | with_reducible exact HB8.out | with_reducible exact HB7.out | with_reducible exact HB6.out | with_reducible exact HB5.out | with_reducible exact HB4.out | with_reducible exact HB3.out | with_reducible exact HB2.out | with_reducible exact HB1.out | with_reducible assumption | with_reducible exact below_new _ | with_reducible exact below_drew))).block b hl))).mono ?_
  rintro r w1 ⟨rfl, hR1, ht1⟩
  have hg0 : ¬ S1x w.heap.size := fun hh => by have := hS _ (hS1x _ hh); omega
  have HR1 := Lib.hid hR1
  clear hR1
  go_wp2
  go_ret
  refine ⟨by first | rfl | (simp; done) | (congr 2; omega), ⟨S1x, _, rfl, HR1.out, hS1x⟩, ?_⟩
  exact (Touch.of_below (below_new _)).trans (ht1.wider hS1x)
set_option maxHeartbeats 4000000 in
set_option maxRecDepth 100000 in
theorem held_spread (w : World) (S : Nat → Prop) (q : Nat) (e : SpreadM) (v : Value) (hn0 : e.xTable.length ≤ 2097152) (hq1 : 1 ≤ q) (hq : q + e.cnt ≤ 500000000) (h : SpreadM.Rep w S (e.mkd q) v) :
    Calls Try.prog 51 #[v, .int .i64 q] w fun r w' => r = .returned (.int .i64 ((q + e.cnt : Nat) : Int)) ∧ Below w.heap.size w w' := by
  obtain ⟨S1x, v1x, rfl, R1x, hS1x⟩ := h
  obtain ⟨a1x, n1x, p1x, rfl⟩ := R1x.form
  unfold SpreadM.cnt at *
  unfold SpreadM.mkd at R1x
  try dsimp only at R1x
  have HX1 := Lib.hid R1x
  clear R1x
  unfold SpreadM.mkd at *
  try dsimp only at *
  go_enter Try.func51, Try.ntmps51
  go_wp2_with fail
  refine (held_intrs _ S1x (q) e.xTable.length _ _ (by have := hn0; omega) (by omega) (by omega) (HX1.out.later (by repeat (first | ((with_reducible refine Below.setCell ?_ ?_ _); rotate_left; first | omega | (dsimp only; omega) | (simp; done) | (simp; omega)) | ((with_reducible refine below_setRow ?_ ?_ _); rotate_left; first | omega | (dsimp only; omega) | (simp; done) | (simp; omega)) | with_reducible exact Below.refl _ _ | with_reducible exact below_new _ | with_reducible exact below_drew | with_reducible exact HB9.out | with_reducible exact HB8.out | with_reducible exact HB7.out | with_reducible exact HB6.out | with_reducible exact HB5.out | with_reducible exact HB4.out | with_reducible exact HB3.out | with_reducible exact HB2.out | with_reducible exact HB1.out | (with_reducible apply below_comp; rotate_left; first | with_reducible exact HB9.out | with_reducible exact HB8.out | with_reducible exact HB7.out | with_reducible exact HB6.out | with_reducible exact HB5.out | with_reducible exact HB4.out | with_reducible exact HB3.out | with_reducible exact HB2.out | with_reducible exact HB1.out | with_reducible assumption | with_reducible exact below_new _ | with_reducible exact below_drew))))).mono ?_
  rintro r w1 ⟨rfl, hb1⟩
  have hz1 := hb1.size
  (try simp at hz1)
  (have hl0 : w.heap.size < w1.heap.size := by omega)
  (apply with_box hb1 (g := w.heap.size))
  (focus (repeat (first | (with_reducible exact HP0.out) | (with_reducible exact HP1.out) | (with_reducible exact HP2.out) | (with_reducible exact HP3.out) | (with_reducible exact HQ0.out) | (with_reducible exact HQ1.out) | (with_reducible exact HQ2.out) | (with_reducible exact HQ3.out) | (with_reducible apply Box.new) | (with_reducible apply Box.newAt; simp; done) | (with_reducible apply Box.set) | (with_reducible apply Box.skip; omega) | (with_reducible apply Box.alloc) | (with_reducible apply Box.drew) | (with_reducible apply Box.row) | (with_reducible apply Box.skipRow; omega))))
  intro hx0
  (try simp only [List.setIfInBounds_toArray, List.set_cons_zero, List.set_cons_succ] at hx0)
  have k0_0 := hx0.cell 0 (by simp)
  have k0_1 := hx0.cell 1 (by simp)
  have fr0 := fun o => hx0.frozen o
  (try simp only [List.getElem_toArray, List.getElem_cons_zero, List.getElem_cons_succ] at k0_0)
  (try simp only [List.getElem_toArray, List.getElem_cons_zero, List.getElem_cons_succ] at k0_1)
  skip
  have HP0 := Lib.hid hx0
  clear hx0
  have HB1 := Lib.hid hb1
  clear hb1
  have hq_1 : ¬ ((q + e.xTable.length * 1 : Nat) : Int) < 0 := by omega
  go_wp2
  go_ret
  refine ⟨by first | rfl | (simp; done) | (congr 2; omega), ?_⟩
  repeat (first | ((with_reducible refine Below.setCell ?_ ?_ _); rotate_left; first | omega | (dsimp only; omega) | (simp; done) | (simp; omega)) | ((with_reducible refine below_setRow ?_ ?_ _); rotate_left; first | omega | (dsimp only; omega) | (simp; done) | (simp; omega)) | with_reducible exact Below.refl _ _ | with_reducible exact below_new _ | with_reducible exact below_drew | with_reducible exact HB9.out | with_reducible exact HB8.out | with_reducible exact HB7.out | with_reducible exact HB6.out | with_reducible exact HB5.out | with_reducible exact HB4.out | with_reducible exact HB3.out | with_reducible exact HB2.out | with_reducible exact HB1.out | (with_reducible apply below_comp; rotate_left; first | with_reducible exact HB9.out | with_reducible exact HB8.out | with_reducible exact HB7.out | with_reducible exact HB6.out | with_reducible exact HB5.out | with_reducible exact HB4.out | with_reducible exact HB3.out | with_reducible exact HB2.out | with_reducible exact HB1.out | with_reducible assumption | with_reducible exact below_new _ | with_reducible exact below_drew))
end Go.Proofs.Ytogiocinhjbdkaa

/- A cell of a row of the call's own is written. -/
namespace Go.Proofs.Ytogiocinhjbdkaa
open Go.RowKit
set_option linter.unusedVariables false
theorem flat_set {m : Nat} : ∀ (xs : List (Array Value)), (∀ x ∈ xs, x.size = m) → ∀ (i j : Nat) (x : Array Value) (u : Value), xs[i]? = some x → j < m → (xs.flatMap (·.toList)).set (i * m + j) u = (xs.set i (x.setIfInBounds j u)).flatMap (·.toList)
  | [], _, i, j, x, u, h, _ => by simp at h
  | y :: ys, hs, 0, j, x, u, h, hj => by
    obtain rfl : y = x := by simpa using h
    have h1 := hs y (by simp)
    rw [Nat.zero_mul, Nat.zero_add, List.flatMap_cons, List.set_append_left _ _ (by simpa [h1] using hj)]
    simp
  | y :: ys, hs, i + 1, j, x, u, h, hj => by
    have h1 := hs y (by simp)
    have h2 : y.toList.length = m := by simpa using h1
    have ih := flat_set ys (fun x hx => hs x (by simp [hx])) i j x u (by simpa using h) hj
    rw [List.flatMap_cons, List.set_append_right _ _ (by rw [h2, Nat.add_mul]; omega), h2, show (i + 1) * m + j - m = i * m + j by rw [Nat.add_mul]; omega, ih]
    simp
theorem Ownd.setAt {W : World} {B : Nat} {T : TypeId} {m : Nat} {v : Value} {xs : List (Array Value)} (h : Ownd W B T m v xs) (hs : ∀ x ∈ xs, x.size = m) {i j : Nat} {x : Array Value} (hi : xs[i]? = some x) (hj : j < m) :
    ∃ g c cur, v = .slice (some ⟨g, 0, none⟩) xs.length c ∧ B ≤ g ∧ W.heap[g]? = some (.cells cur T (0, 0)) ∧ (∃ old, W.cell? ⟨g, i * m + j, none⟩ = some old) ∧ W.frozen? ⟨g, i * m + j, none⟩ = false ∧
      ∀ u, Ownd (W.setCell ⟨g, i * m + j, none⟩ u) B T m v (xs.set i (x.setIfInBounds j u)) := by
  have hlt : i < xs.length := (List.getElem?_eq_some_iff.1 hi).1
  rcases h with ⟨hl, ⟨rfl, h⟩ | ⟨g, cap, cur, rfl, hb, hg, hc, hm, hsz, ht⟩⟩ | ⟨rfl, a, rfl⟩
  · omega
  · have hp : i * m + j < xs.length * m := row_at_lt hlt hj
    have hp2 : i * m + j < cur.size := by
      have := Nat.mul_le_mul_right m hc
      rw [hsz]; omega
    refine ⟨g, cap, cur, rfl, hb, hg, ⟨cur[i * m + j], by rw [cell_of_row W g _ cur T (0, 0) hg]; exact Array.getElem?_eq_getElem hp2⟩, frozen_of_row W g _ cur T hg, fun u => ?_⟩
    refine .inl ⟨?_, .inr ⟨g, cap, _, by simp, hb, heap_setCell_same W g (i * m + j) cur T u hg, by simpa using hc, hm, by simpa using hsz, ?_⟩⟩
    · rw [← flat_set xs hs i j x u hi hj]; simp [hl]
    · rw [← flat_set xs hs i j x u hi hj, Array.toList_setIfInBounds, List.length_set, List.take_set, ht]
  · simp at hi
theorem Row.setAt {W : World} {S : Nat → Prop} {T : TypeId} {m : Nat} {v : Value} {xs : List (Array Value)} (h : Row W S T m v xs) (hs : ∀ x ∈ xs, x.size = m) {i j : Nat} {x : Array Value} (hi : xs[i]? = some x) (hj : j < m) :
    ∃ g c cur, v = .slice (some ⟨g, 0, none⟩) xs.length c ∧ S g ∧ W.heap[g]? = some (.cells cur T (0, 0)) ∧ (∃ old, W.cell? ⟨g, i * m + j, none⟩ = some old) ∧ W.frozen? ⟨g, i * m + j, none⟩ = false ∧
      ∀ u, Row (W.setCell ⟨g, i * m + j, none⟩ u) S T m v (xs.set i (x.setIfInBounds j u)) := by
  have hlt : i < xs.length := (List.getElem?_eq_some_iff.1 hi).1
  rcases h with ⟨rfl, _⟩ | ⟨h0, g, c, cs, rfl, h2, h4, h5, h6⟩
  · simp at hi
  · have hp : i * m + j < xs.length * m := row_at_lt hlt hj
    have hp2 : i * m + j < cs.size := by omega
    refine ⟨g, c, cs, rfl, h2, h4, ⟨cs[i * m + j], by rw [cell_of_row W g _ cs T (0, 0) h4]; exact Array.getElem?_eq_getElem hp2⟩, frozen_of_row W g _ cs T h4, fun u => ?_⟩
    refine .inr ⟨fun e => h0 (by have h := congrArg List.length e; simp at h; exact h), g, c, _, by simp, h2, heap_setCell_same W g (i * m + j) cs T u h4, by simpa using h5, fun i' x' hx' j' hj' => ?_⟩
    rw [List.getElem?_set] at hx'
    by_cases e : i = i'
    · subst e
      simp only [hlt, if_true, Option.some.injEq] at hx'
      subst hx'
      by_cases ej : j = j'
      · subst ej
        have hxs : j < x.size := by rw [hs x (List.mem_of_getElem? hi)]; exact hj
        rw [Array.getElem?_setIfInBounds_self_of_lt hp2, Array.getElem?_setIfInBounds_self_of_lt hxs]
      · rw [Array.getElem?_setIfInBounds_ne (by omega), Array.getElem?_setIfInBounds_ne ej]
        exact h6 i x hi j' hj'
    · rw [if_neg e] at hx'
      have hi' : i' < xs.length := (List.getElem?_eq_some_iff.1 hx').1
      rw [Array.getElem?_setIfInBounds_ne (fun e2 => e (by
        have h1 : i = (i * m + j) / m := by rw [Nat.add_comm, Nat.add_mul_div_right _ _ (by omega), Nat.div_eq_of_lt hj, Nat.zero_add]
        have h2' : i' = (i' * m + j') / m := by rw [Nat.add_comm, Nat.add_mul_div_right _ _ (by omega), Nat.div_eq_of_lt hj', Nat.zero_add]
        rw [h1, e2, ← h2']))]
      exact h6 i' x' hx' j' hj'
theorem Box.apart {W : World} {g k : Nat} {vs cur : Array Value} {t T : TypeId} (h : Box W g vs t) (hk : W.heap[k]? = some (.cells cur T (0, 0))) (hT : (t == T) = false) : ¬ g = k := fun e => by
  subst e
  unfold Box at h
  rw [h] at hk
  cases hk
  simp at hT
theorem List.set_map_arr {α : Type} (f : α → Array Value) (l : List α) (i : Nat) (y : α) (h : ∀ (h : i < l.length), True) : (l.map f).set i (f y) = (l.set i y).map f := by
  rw [List.map_set]
end Go.Proofs.Ytogiocinhjbdkaa

/- QueueLoads: counts. -/
namespace Go.Proofs.Ytogiocinhjbdkaa
open Go.RowKit
set_option linter.unusedSimpArgs false
set_option linter.unusedVariables false

def sqOf (e : SpreadM) (q : Int) (fl : FlowM) : Int := queueV e.xKey e.xTable.length (fun j => e.xTable.getD j 0) q (hashV e.xKey fl.input)
def okOf (e : SpreadM) (q : Int) : Bool := spreadB e.xKey e.xTable.length (fun j => e.xTable.getD j 0) q
/-- How many of the first k flows come to queue j. -/
def cntOf (l : List Int) (j : Int) : Nat → Int
  | 0 => 0
  | k + 1 => cntOf l j k + (if l[k]? = some j then 1 else 0)
def loadsN (l : List Int) (q k : Nat) : List Int := (List.range q).map fun (j : Nat) => cntOf l (j : Int) k
def loadsM (e : SpreadM) (q : Int) (fs : List FlowM) : List Int := if okOf e q = true then loadsN (fs.map (sqOf e q)) q.toNat fs.length else []
theorem loadsN_len (l : List Int) (q k : Nat) : (loadsN l q k).length = q := by simp [loadsN]
theorem cntOf_bd (l : List Int) (j : Int) (k : Nat) : 0 ≤ cntOf l j k ∧ cntOf l j k ≤ k := by
  induction k with
  | zero => simp [cntOf]
  | succ k ih => unfold cntOf; split <;> omega
theorem loadsN_0 (l : List Int) (q : Nat) : loadsN l q 0 = List.replicate q (0 : Int) := by
  apply List.ext_getElem? ; intro i; simp [loadsN, cntOf, List.getElem?_replicate]; split <;> simp_all
theorem loadsN_at (l : List Int) (q k j : Nat) (h : j < q) : (loadsN l q k)[j]? = some (cntOf l (j : Int) k) := by simp [loadsN, h]
theorem loadsN_step (l : List Int) (q k x : Nat) (hx : x < q) (h : l[k]? = some (x : Int)) : loadsN l q (k + 1) = (loadsN l q k).set x (cntOf l (x : Int) k + 1) := by
  apply List.ext_getElem?
  intro i
  rw [List.getElem?_set]
  by_cases hi : i < q
  · rw [loadsN_at _ _ _ _ hi, loadsN_at _ _ _ _ hi]
    by_cases e : x = i
    · subst e; simp [cntOf, h, loadsN_len, hi]
    · rw [if_neg e]; simp only [cntOf, h]; rw [if_neg (by simp; omega)]; simp
  · rw [List.getElem?_eq_none (by rw [loadsN_len]; omega), List.getElem?_eq_none (by rw [loadsN_len]; omega)]; split <;> simp_all [loadsN_len]
theorem loadsN_skip (l : List Int) (q k : Nat) (x : Int) (hx : ¬ (0 ≤ x ∧ x < q)) (h : l[k]? = some x) : loadsN l q (k + 1) = loadsN l q k := by
  apply List.ext_getElem?
  intro i
  by_cases hi : i < q
  · rw [loadsN_at _ _ _ _ hi, loadsN_at _ _ _ _ hi]; simp only [cntOf, h]; rw [if_neg (by simp; omega)]; simp
  · rw [List.getElem?_eq_none (by rw [loadsN_len]; omega), List.getElem?_eq_none (by rw [loadsN_len]; omega)]
theorem loadsM_len (e : SpreadM) (q : Int) (fs : List FlowM) : (loadsM e q fs).length ≤ 4 := by
  unfold loadsM
  split
  · rename_i h
    rw [loadsN_len]
    unfold okOf spreadB at h
    simp only [Bool.and_eq_true, decide_eq_true_eq] at h
    omega
  · simp
theorem okOf_bd {e : SpreadM} {q : Int} (h : okOf e q = true) : (1 ≤ q ∧ q ≤ 4) ∧ ∀ fl, 0 ≤ sqOf e q fl ∧ sqOf e q fl < q := by
  have h0 : spreadB e.xKey e.xTable.length (fun j => e.xTable.getD j 0) q = true := h
  unfold okOf spreadB at h
  simp only [Bool.and_eq_true, decide_eq_true_eq] at h
  obtain ⟨⟨⟨h1, h2⟩, h3⟩, h4⟩ := h
  refine ⟨h1, fun fl => ?_⟩
  unfold sqOf queueV
  rw [if_pos h0]
  unfold allB at h4
  have h5 := of_decide_eq_true h4 ((hashV e.xKey fl.input).toNat % e.xTable.length) (Nat.mod_lt _ (by unfold Pow1to16 at h3; omega))
  omega

end Go.Proofs.Ytogiocinhjbdkaa

/- QueueLoads, the model. -/
namespace Go.Proofs.Ytogiocinhjbdkaa
open Go.RowKit
set_option linter.unusedSimpArgs false
set_option linter.unusedVariables false

def AnsLoads (w : World) (l : List Int) (e : Ending) (w' : World) : Prop := ∃ v, e = .returned v ∧ Row w' (Rng w.heap.size w'.heap.size) 3 1 v (l.map intrA) ∧ Below w.heap.size w w'

theorem Row.tight {W : World} {S : Nat → Prop} {T : TypeId} {m : Nat} {v : Value} {xs : List (Array Value)} (h : Row W S T m v xs) {B : Nat} (hS : ∀ k, S k → B ≤ k) : Row W (Rng B W.heap.size) T m v xs := by
  rcases h with h | ⟨h0, g, c, cs, h1, h2, h4, r⟩
  · exact .inl h
  · exact .inr ⟨h0, g, c, cs, h1, ⟨hS g h2, (Array.getElem?_eq_some_iff.1 h4).1⟩, h4, r⟩

set_option maxHeartbeats 4000000 in
set_option maxRecDepth 100000 in
theorem spec_loads (e : SpreadM) (q : Int) (fs : List FlowM) (S0 S2 : Nat → Prop) (v0 v2 : Value) (w : World) (hk : e.xKey.size ≤ 4194304) (hn : e.xTable.length ≤ 2097152) (hf : fs.length ≤ 2097152) (R0 : SpreadM.Rep w S0 e v0) (R2 : Row w S2 151 5 v2 (fs.map FlowM.arr)) :
    Calls Try.prog 62 #[v0, .int .i64 q, v2] w (AnsLoads w (loadsM e q fs)) := by
  obtain ⟨S3, v3, rfl, R3, hS3⟩ := R0
  have HOK : Hid (∀ W, Below w.heap.size w W → Calls Try.prog 115 #[.agg #[.string e.xKey, v3], .int .i64 q] W fun r w' => r = .returned (.bool (okOf e q)) ∧ Below W.heap.size W w') := Lib.hid fun W h => spec_spreadok e.xKey v3 e.xTable.length 0 (fun j => e.xTable.getD j 0) q W hk (by omega) (IntRow.of_row (R3.later h))
  have HQ : Hid (∀ (fl : FlowM) W, Below w.heap.size w W → Calls Try.prog 116 #[.agg #[.string e.xKey, v3], .int .i64 q, fl.val] W fun r w' => r = .returned (.int .i64 (sqOf e q fl)) ∧ Below W.heap.size W w') := Lib.hid fun fl W h => spec_queue e.xKey v3 e.xTable.length 0 (fun j => e.xTable.getD j 0) q fl W hk (by omega) (IntRow.of_row (R3.later h))
  obtain ⟨as_, ns_, cs_, rfl⟩ := R3.form
  obtain ⟨a2, g2, c2, rfl, hV2, _⟩ := R2.open
  rw [List.length_map]
  have HV2 := Lib.hid hV2
  clear R3 hS3 R2 hV2
  obtain ⟨nf, hl⟩ : ∃ m, m = fs.length := ⟨_, rfl⟩
  have hfL := hf
  rw [← hl] at hf ⊢
  have HL := Lib.hid hl
  clear hl hn
  obtain ⟨R, hR⟩ : ∃ R, loadsM e q fs = R := ⟨_, rfl⟩
  rw [hR]
  have HR := Lib.hid hR
  clear hR
  by_cases hB : okOf e q = true
  case neg =>
    have hB' := Bool.eq_false_iff.2 hB
    rw [hB'] at HOK
    obtain rfl : [] = R := ((if_neg hB : loadsM e q fs = []).symm.trans HR.out)
    clear hB hB'
    go_enter Try.func62, Try.ntmps62
    go_upto_region 1 with fail
    obtain ⟨w1, hw_⟩ : ∃ x, x = (w.alloc (.cells #[.string e.xKey, .slice as_ ns_ cs_] 68)) := ⟨_, rfl⟩
    have hb1 : Below w.heap.size w w1 := hw_ ▸ below_new _
    have HP0 : Hid (Box w1 (w.heap.size) #[.string e.xKey, .slice as_ ns_ cs_] 68) := Lib.hid (by rw [hw_]; repeat (first | (with_reducible exact HP0.out) | (with_reducible exact HP1.out) | (with_reducible exact HP2.out) | (with_reducible exact HP3.out) | (with_reducible exact HP4.out) | (with_reducible exact HP5.out) | (with_reducible exact HP6.out) | (with_reducible exact HP7.out) | (with_reducible exact HP8.out) | (with_reducible exact HP9.out) | (with_reducible exact HP10.out) | (with_reducible exact HP11.out) | (with_reducible exact HQ0.out) | (with_reducible exact HQ1.out) | (with_reducible exact HQ2.out) | (with_reducible exact HQ3.out) | (with_reducible apply Box.new) | (with_reducible apply Box.newAt; simp; done) | (with_reducible apply Box.set) | (with_reducible apply Box.skip; omega) | (with_reducible apply Box.alloc) | (with_reducible apply Box.drew) | (with_reducible apply Box.row) | (with_reducible apply Box.skipRow; omega)))
    have hl0 : w.heap.size < w1.heap.size := HP0.out.lt
    rw [← hw_]
    clear hw_
    have k0_0 := HP0.out.cell 0 (by simp)
    have k0_1 := HP0.out.cell 1 (by simp)
    have fr0 := fun o => HP0.out.frozen o
    (try simp only [List.getElem_toArray, List.getElem_cons_zero, List.getElem_cons_succ] at k0_0)
    (try simp only [List.getElem_toArray, List.getElem_cons_zero, List.getElem_cons_succ] at k0_1)
    have HB1 := Lib.hid hb1
    go_wp2_with (go_at_call 115; refine (HOK.out _ (by repeat (first | with_reducible exact Below.refl _ _ | with_reducible exact below_new _ | with_reducible exact below_drew | with_reducible exact HB9.out | with_reducible exact HB8.out | with_reducible exact HB7.out | with_reducible exact HB6.out | with_reducible exact HB5.out | with_reducible exact HB4.out | with_reducible exact HB3.out | with_reducible exact HB2.out | with_reducible exact HB1.out | ((with_reducible refine Below.setCell ?_ ?_ _); rotate_left; first | omega | (dsimp only; omega) | (simp; done) | (simp; omega)) | ((with_reducible refine below_setRow ?_ ?_ _); rotate_left; first | omega | (dsimp only; omega) | (simp; done) | (simp; omega)) | (with_reducible apply below_comp; rotate_left; first | with_reducible exact HB9.out | with_reducible exact HB8.out | with_reducible exact HB7.out | with_reducible exact HB6.out | with_reducible exact HB5.out | with_reducible exact HB4.out | with_reducible exact HB3.out | with_reducible exact HB2.out | with_reducible exact HB1.out | with_reducible assumption | with_reducible exact below_new _ | with_reducible exact below_drew)))).mono ?_; rintro e_ w2 ⟨rfl, hb2⟩; have HB2 := Lib.hid (below_comp HB1.out hb2); have HP2 := Lib.hid (HP0.out.later hb2); clear hb2)
    go_ret
    exact ⟨_, rfl, Row.nil _ _ _ _ _ _, below_comp HB2.out (below_new _)⟩
  rw [hB] at HOK
  obtain ⟨⟨hq1, hq4⟩, hsq⟩ := okOf_bd hB
  have HSQ := Lib.hid hsq
  obtain ⟨nq, rfl⟩ : ∃ m : Nat, q = m := ⟨q.toNat, by omega⟩
  have HRR : Hid (loadsN (fs.map (sqOf e nq)) nq fs.length = R) := Lib.hid ((if_pos hB : loadsM e nq fs = _).symm.trans HR.out)
  have hq1' : 1 ≤ nq := by omega
  have hq4' : nq ≤ 4 := by omega
  clear hsq hB HR hq1 hq4
  obtain ⟨i0, hi, hz0, hz1, hz2⟩ := info_parts Try.infoI
  go_enter Try.func62, Try.ntmps62
  go_upto_region 1 with fail
  obtain ⟨w1, hw_⟩ : ∃ x, x = (w.alloc (.cells #[.string e.xKey, .slice as_ ns_ cs_] 68)) := ⟨_, rfl⟩
  have hb1 : Below w.heap.size w w1 := hw_ ▸ below_new _
  have HP0 : Hid (Box w1 (w.heap.size) #[.string e.xKey, .slice as_ ns_ cs_] 68) := Lib.hid (by rw [hw_]; repeat (first | (with_reducible exact HP0.out) | (with_reducible exact HP1.out) | (with_reducible exact HP2.out) | (with_reducible exact HP3.out) | (with_reducible exact HP4.out) | (with_reducible exact HP5.out) | (with_reducible exact HP6.out) | (with_reducible exact HP7.out) | (with_reducible exact HP8.out) | (with_reducible exact HP9.out) | (with_reducible exact HP10.out) | (with_reducible exact HP11.out) | (with_reducible exact HQ0.out) | (with_reducible exact HQ1.out) | (with_reducible exact HQ2.out) | (with_reducible exact HQ3.out) | (with_reducible apply Box.new) | (with_reducible apply Box.newAt; simp; done) | (with_reducible apply Box.set) | (with_reducible apply Box.skip; omega) | (with_reducible apply Box.alloc) | (with_reducible apply Box.drew) | (with_reducible apply Box.row) | (with_reducible apply Box.skipRow; omega)))
  have hl0 : w.heap.size < w1.heap.size := HP0.out.lt
  rw [← hw_]
  clear hw_
  have k0_0 := HP0.out.cell 0 (by simp)
  have k0_1 := HP0.out.cell 1 (by simp)
  have fr0 := fun o => HP0.out.frozen o
  (try simp only [List.getElem_toArray, List.getElem_cons_zero, List.getElem_cons_succ] at k0_0)
  (try simp only [List.getElem_toArray, List.getElem_cons_zero, List.getElem_cons_succ] at k0_1)
  have HB1 := Lib.hid hb1
  go_wp2_with (first | (go_at_call 115; refine (HOK.out _ (by repeat (first | with_reducible exact Below.refl _ _ | with_reducible exact below_new _ | with_reducible exact below_drew | with_reducible exact HB9.out | with_reducible exact HB8.out | with_reducible exact HB7.out | with_reducible exact HB6.out | with_reducible exact HB5.out | with_reducible exact HB4.out | with_reducible exact HB3.out | with_reducible exact HB2.out | with_reducible exact HB1.out | ((with_reducible refine Below.setCell ?_ ?_ _); rotate_left; first | omega | (dsimp only; omega) | (simp; done) | (simp; omega)) | ((with_reducible refine below_setRow ?_ ?_ _); rotate_left; first | omega | (dsimp only; omega) | (simp; done) | (simp; omega)) | (with_reducible apply below_comp; rotate_left; first | with_reducible exact HB9.out | with_reducible exact HB8.out | with_reducible exact HB7.out | with_reducible exact HB6.out | with_reducible exact HB5.out | with_reducible exact HB4.out | with_reducible exact HB3.out | with_reducible exact HB2.out | with_reducible exact HB1.out | with_reducible assumption | with_reducible exact below_new _ | with_reducible exact below_drew)))).mono ?_; rintro e_ w2 ⟨rfl, hb2⟩; have HB2 := Lib.hid (below_comp HB1.out hb2); have HP2 := Lib.hid (HP0.out.later hb2); clear hb2) | (at_make; refine wpList_make_full _ rfl _ _ 48 rfl w2.heap.size 3 i0 _ 1 Try.underlying48 hi hz0 hz1 .i64 .i64 _ _ nq rfl rfl rfl rfl (by rw [hz2]; omega) (by unfold maxLen; omega) (Nat.le_refl _) ?_; intro w3 hown3 hgrow3))
  have hb3 : Below w2.heap.size w2 w3 := (Below.refl _ _).grown hgrow3 (Nat.le_refl _) (by intro k hk; cases hk)
  obtain ⟨g7, hg7⟩ : ∃ g7, g7 = w2.heap.size := ⟨_, rfl⟩
  have hlt7 : w.heap.size < g7 := by rw [hg7]; exact HP2.out.lt
  have HR0 : Hid (Row w3 (fun x => w.heap.size < x) 3 1 (.slice (some ⟨g7, 0, none⟩) nq nq) ((loadsN (fs.map (sqOf e nq)) nq 0).map intrA)) := Lib.hid (by
    have h := made_flat (intrA 0) nq (by decide)
    rw [show (intrA 0).size = 1 from rfl] at h
    have h1 : w3.ownsRow w2.heap.size 3 1 (.slice (some ⟨w2.heap.size, 0, none⟩) nq nq) nq ((List.replicate nq (intrA 0)).flatMap (·.toList)) := by rw [← h]; exact hown3
    have h2 := Row.of_own h1 (by simp) (fun x hx => by rw [(List.mem_replicate.1 hx).2]; rfl)
    rw [loadsN_0, List.map_replicate, hg7]
    exact h2.mono (fun k hk => by have := hk.1; have h9 := HP2.out.lt; show w.heap.size < k; omega))
  rw [← hg7]
  have HB3 := Lib.hid (below_comp HB2.out hb3)
  have HP3 := Lib.hid (HP2.out.later hb3)
  clear hg7 hown3 hgrow3 hb3 HB2 HP2 HP0 HB1 k0_0 k0_1 fr0 hl0
  go_loopw [8] (fun i wr => ∃ k : Nat, k ≤ nf ∧ i = .int .i64 k ∧ Hid (Row wr (fun x => w.heap.size < x) 3 1 (.slice (some ⟨g7, 0, none⟩) nq nq) ((loadsN (fs.map (sqOf e nq)) nq k).map intrA)) ∧ Hid (Box wr w.heap.size #[.string e.xKey, .slice as_ ns_ cs_] 68) ∧ Hid (Below w.heap.size w wr)) (fun i _ => nf + 1 - (intOf i).toNat)
  case atStart => exact ⟨0, by omega, rfl, HR0, HP3, HB3⟩
  case round =>
    clear HR0 HP3 HB3
    obtain ⟨k, hk, rfl, HRW, HP, HB⟩ := hrel
    by_cases hlt : k < nf
    · have hk' : k < fs.length := by have := HL.out; omega
      have e1 : (k : Int) < (nf : Int) := by omega
      have e0 : (0 : Int) ≤ (k : Int) := by omega
      have hne : fs.map FlowM.arr ≠ [] := fun e => by simp at e; rw [e] at hk'; simp at hk'
      obtain ⟨ea, eg⟩ := HV2.out.1 hne
      subst ea
      clear hne
      have HC : Hid (∀ W, Below w.heap.size w W → W.rangeAt g2 (k * 5) fs[k].arr.toList) := Lib.hid fun W hW j u hu => by
        have hj : j < 5 := (List.getElem?_eq_some_iff.1 hu).1
        rw [(HV2.out.later hW).2 k fs[k].arr (by simp [hk']) j hj]; simpa using hu
      have LD : ∀ (op : Oper) (b : Act) (W : World) (K : Act → World → Prop) (Q : Exit → Act → World → Prop) (ty : TypeId) (xx : Operand) (ho : op.op = .load ty xx), Below w.heap.size w W → ty = 151 → b.eval xx = .pointer (some ⟨g2, k * 5, none⟩) → K (b.put op.dst fs[k].val) W → op.wp Try.prog b W K Q := fun op b W K Q ty xx ho hW ht hx h => by
        subst ht
        exact wp_load_mid _ xx ho g2 (k * 5) hx fs[k].arr.toList _ (HC.out W hW) Try.underlying151 rfl (by kernel_rfl) (by simpa [FlowM.val_arr] using h)
      have HLD := Lib.hid LD
      clear LD HC
      have HE := Lib.hid fun W (h : Below w.heap.size w W) => HQ.out fs[k] W h
      have hx := HSQ.out fs[k]
      have HXL : Hid ((fs.map (sqOf e nq))[k]? = some (sqOf e nq fs[k])) := Lib.hid (by simp [hk'])
      generalize sqOf e nq fs[k] = x at hx HE HXL
      generalize fs[k].val = ev at HE HLD
      obtain ⟨j, rfl⟩ : ∃ j : Nat, x = j := ⟨x.toNat, by omega⟩
      have hj : j < nq := by omega
      have HST := Lib.hid (loadsN_step (fs.map (sqOf e nq)) nq k j hj HXL.out)
      have hcb := cntOf_bd (fs.map (sqOf e nq)) j k
      have hat := loadsN_at (fs.map (sqOf e nq)) nq k j hj
      have HAT := Lib.hid hat
      have HCB := Lib.hid hcb
      clear HXL hx hat hcb
      go_upto_region 7 with fail
      have hlp : w.heap.size < wr.heap.size := HP.out.lt

      obtain ⟨V, hV⟩ : ∃ V, Hid (V = Vals [.agg #[.string e.xKey, .slice as_ ns_ cs_], .int .i64 (nq : Int), .slice (some ⟨g2, 0, none⟩) nf c2, .int .i64 (k : Int), .pointer (some ⟨g2, k * 5, none⟩), ev, .int .i64 (j : Int), .int .i64 (j : Int)] []) := ⟨_, Lib.hid rfl⟩
      refine wp_region_valuesG (by kernel_rfl) (fun W => Below wr.heap.size wr W) V
        39 rfl (by kernel_rfl) (by kernel_rfl) below_drew (eachOp_all ?_) ?_
      · refine ⟨?_, ?_, ?_, ?_, ?_, ?_, ?_, ?_, trivial⟩
        · intro a W hd hS hdep hfree
          have x3 : a.tmps.getD 3 undef = .pointer (some ⟨w.heap.size, 0, none⟩) := hfree 3 (by kernel_rfl)
          clear hd hdep hfree
          refine .inl ⟨wanted_free rfl, ?_⟩
          have c0 : W.cell? ⟨w.heap.size, 0, none⟩ = some (.string e.xKey) := (HP.out.below hS hlp).cell 0 (by simp)
          have c1 : W.cell? ⟨w.heap.size, 1, none⟩ = some (.slice as_ ns_ cs_) := (HP.out.below hS hlp).cell 1 (by simp)
          simp only [Oper.wp, execOp]
          go_simp
          refine Nxt.mk _ rfl (fun _ _ => ?_) hS (fun _ _ h => h)
          (rw [hV.out]; rfl)
        · intro a W hd hS hdep hfree
          have x1 : a.tmps.getD 1 undef = .int .i64 (nq : Int) := hfree 1 (by kernel_rfl)
          clear hd hdep hfree
          refine .inl ⟨wanted_free rfl, ?_⟩
          simp only [Oper.wp, execOp]
          go_simp
          refine Nxt.mk _ rfl (fun _ _ => ?_) hS (fun _ _ h => h)
          (rw [hV.out]; rfl)
        · intro a W hd hS hdep hfree
          have x2 : a.tmps.getD 2 undef = .slice (some ⟨g2, 0, none⟩) nf c2 := hfree 2 (by kernel_rfl)
          clear hd hdep hfree
          refine .inl ⟨wanted_free rfl, ?_⟩
          simp only [Oper.wp, execOp]
          go_simp
          refine Nxt.mk _ rfl (fun _ _ => ?_) hS (fun _ _ h => h)
          (rw [hV.out]; rfl)
        · intro a W hd hS hdep hfree
          have x8 : a.tmps.getD 8 undef = .int .i64 (k : Int) := hfree 8 (by kernel_rfl)
          clear hd hdep hfree
          refine .inl ⟨wanted_free rfl, ?_⟩
          simp only [Oper.wp, execOp]
          go_simp
          refine Nxt.mk _ rfl (fun _ _ => ?_) hS (fun _ _ h => h)
          (rw [hV.out]; rfl)
        · intro a W hd hS hdep hfree
          have x25 : a.tmps.getD 25 undef = .slice (some ⟨g2, 0, none⟩) nf c2 := by have h := hdep 2 25 (by kernel_rfl) rfl; rw [hV.out] at h; exact h
          have x26 : a.tmps.getD 26 undef = .int .i64 (k : Int) := by have h := hdep 3 26 (by kernel_rfl) rfl; rw [hV.out] at h; exact h
          clear hd hdep hfree
          refine .inl ⟨wanted_free rfl, ?_⟩
          simp only [Oper.wp, execOp]
          go_simp
          refine Nxt.mk _ rfl (fun _ _ => ?_) hS (fun _ _ h => h)
          (rw [hV.out]; rfl)
        · intro a W hd hS hdep hfree
          have x27 : a.tmps.getD 27 undef = .pointer (some ⟨g2, k * 5, none⟩) := by have h := hdep 4 27 (by kernel_rfl) rfl; rw [hV.out] at h; exact h
          clear hd hdep hfree
          refine .inl ⟨wanted_free rfl, ?_⟩
          refine HLD.out _ _ _ _ _ _ (.tmp 27) rfl (below_comp HB.out hS) rfl (by simpa [Act.eval] using x27) ?_
          refine Nxt.mk _ rfl (fun _ _ => ?_) hS (fun _ _ h => h)
          (rw [hV.out]; rfl)
        · intro a W hd hS hdep hfree
          have x23 : a.tmps.getD 23 undef = .agg #[.string e.xKey, .slice as_ ns_ cs_] := by have h := hdep 0 23 (by kernel_rfl) rfl; rw [hV.out] at h; exact h
          have x24 : a.tmps.getD 24 undef = .int .i64 (nq : Int) := by have h := hdep 1 24 (by kernel_rfl) rfl; rw [hV.out] at h; exact h
          have x28 : a.tmps.getD 28 undef = ev := by have h := hdep 5 28 (by kernel_rfl) rfl; rw [hV.out] at h; exact h
          clear hd hdep hfree
          refine .inl ⟨wanted_free rfl, ?_⟩
          simp only [Oper.wp, execOp]
          go_simp
          refine ((HE.out W (below_comp HB.out hS))).mono ?_
          rintro e W' ⟨rfl, hb⟩
          exact Nxt.mk _ rfl (fun _ _ => by (rw [hV.out]; rfl)) (below_comp hS hb) (fun j u h => by rw [hV.out] at h ⊢; exact Vals.below hb j u h)
        · intro a W hd hS hdep hfree
          have x29 : a.tmps.getD 29 undef = .int .i64 (j : Int) := by have h := hdep 6 29 (by kernel_rfl) rfl; rw [hV.out] at h; exact h
          clear hd hdep hfree
          refine .inl ⟨wanted_free rfl, ?_⟩
          simp only [Oper.wp, execOp]
          go_simp
          refine Nxt.mk _ rfl (fun _ _ => ?_) hS (fun _ _ h => h)
          (rw [hV.out]; rfl)
      intro a w5 hs hd hS5 hdone hrest
      have ea := written_all [.agg #[.string e.xKey, .slice as_ ns_ cs_], .int .i64 (nq : Int), .slice (some ⟨g2, 0, none⟩) nf c2, .int .i64 (k : Int), .pointer (some ⟨g2, k * 5, none⟩), ev, .int .i64 (j : Int), .int .i64 (j : Int)] rfl hs hd hrest (fun j d hj => by have h := hdone j d hj; rw [hV.out] at h; exact h)
      clear hs hd hdone hrest hV V
      subst ea
      simp only [written, List.append_eq, Array.toList_append, List.append_toArray, List.map_append, List.cons_append, List.nil_append, List.map_cons, List.map_nil, List.zip_cons_cons, List.zip_nil_right, putAll]
      simp only [Exit.then, Act.put, List.setIfInBounds_toArray, List.set_cons_zero, List.set_cons_succ]
      have hat := HAT.out
      have hcb := HCB.out
      have HB5 := Lib.hid (below_comp HB.out hS5)
      have HP5 := Lib.hid (HP.out.below hS5 hlp)
      have HR5 := Lib.hid (HRW.out.later hS5)
      obtain ⟨g', c', cur, e', hS', hgl, _, hfr, hset⟩ := HR5.out.setAt (el_int.sizes _) (i := j) (j := 0) (x := intrA (cntOf (fs.map (sqOf e nq)) j k)) (by rw [List.getElem?_map, hat]; rfl) (by omega)
      rw [List.length_map, loadsN_len] at e'
      cases e'
      have hcell : w5.cell? ⟨g7, j, none⟩ = some (.int .i64 (cntOf (fs.map (sqOf e nq)) j k)) := by
        obtain ⟨a', g', c', e', hV', _⟩ := HR5.out.open
        have hx := hV'.2 j (intrA (cntOf (fs.map (sqOf e nq)) j k)) (by rw [List.getElem?_map, hat]; rfl) 0 (by omega)
        have h1 := (hV'.1 (fun e => by have h := congrArg List.length e; simp [loadsN_len] at h; omega)).1
        subst h1
        rw [List.length_map, loadsN_len] at e'
        cases e'
        simpa [intrA] using hx
      rw [Nat.mul_one, Nat.add_zero] at hfr hset
      have HSET : Hid (Row (w5.setCell ⟨g7, j, none⟩ (.int .i64 (cntOf (fs.map (sqOf e nq)) j k + 1))) (fun x => w.heap.size < x) 3 1 (.slice (some ⟨g7, 0, none⟩) nq nq) ((loadsN (fs.map (sqOf e nq)) nq (k + 1)).map intrA)) := Lib.hid (by
        have h := hset (.int .i64 (cntOf (fs.map (sqOf e nq)) j k + 1))
        have h2 : ((loadsN (fs.map (sqOf e nq)) nq k).map intrA).set j ((intrA (cntOf (fs.map (sqOf e nq)) j k)).setIfInBounds 0 (.int .i64 (cntOf (fs.map (sqOf e nq)) j k + 1))) = (loadsN (fs.map (sqOf e nq)) nq (k + 1)).map intrA := by rw [HST.out, List.map_set]; rfl
        rw [h2] at h
        exact h)
      have HP6 : Hid (Box (w5.setCell ⟨g7, j, none⟩ (.int .i64 (cntOf (fs.map (sqOf e nq)) j k + 1))) w.heap.size #[.string e.xKey, .slice as_ ns_ cs_] 68) := Lib.hid (Box.skip (by omega) HP5.out)
      have HB6 : Hid (Below w.heap.size w (w5.setCell ⟨g7, j, none⟩ (.int .i64 (cntOf (fs.map (sqOf e nq)) j k + 1)))) := Lib.hid (Below.setCell HB5.out (by dsimp only; omega) _)
      generalize cntOf (fs.map (sqOf e nq)) j k = cv at *
      clear hset hgl hS' hat HST HR5 HRW
      have ej : (j : Int) < (nq : Int) := by omega
      have ej0 : (0 : Int) ≤ (j : Int) := by omega
      go_wp2
      go_roundw
      case rel => exact ⟨k + 1, by omega, by go_num, HSET, HP6, HB6⟩
      case measure => simp [intOf]; omega
    · obtain rfl : k = nf := by omega
      have hrr := HRR.out
      rw [← HL.out] at hrr
      have HRF := HRW.out
      rw [hrr] at HRF
      have HF := Lib.hid (HRF.tight (B := w.heap.size) (fun k hk => Nat.le_of_lt hk))
      clear hrr HRF HRW
      go_wp2
      go_ret
      exact ⟨_, rfl, HF.out, HB.out⟩

end Go.Proofs.Ytogiocinhjbdkaa

/- countOf, QueueLoads, the program. -/
namespace Go.Proofs.Ytogiocinhjbdkaa
open Go.RowKit
set_option linter.unusedSimpArgs false
set_option linter.unusedVariables false

def cntL (l : List Int) (j : Int) : Nat → Int
  | 0 => 0
  | k + 1 => cntL l j k + (if l[k]? = some j then 1 else 0)
theorem cntL_bd (l : List Int) (j : Int) (k : Nat) : 0 ≤ cntL l j k ∧ cntL l j k ≤ k := by
  induction k with
  | zero => simp [cntL]
  | succ k ih => unfold cntL; split <;> omega
theorem cntL_eq (l : List Int) (j : Int) (k : Nat) : cntL l j k = cntOf l j k := by
  induction k with
  | zero => rfl
  | succ k ih => simp only [cntL, cntOf, ih]

set_option maxHeartbeats 4000000 in
set_option maxRecDepth 100000 in
theorem impl_countof (a : Option Addr) (g c : Nat) (l : List Int) (x : Int) (w : World) (hn : l.length ≤ 4194304) (hV : View w a g 1 (l.map intrA)) :
    Calls Try.prog 120 #[.slice a l.length c, .int .i64 x] w fun e w' => e = .returned (.int .i64 (cntL l x l.length)) ∧ Below w.heap.size w w' := by
  have HV := Lib.hid hV
  have HBD := Lib.hid (cntL_bd l x)
  obtain ⟨R, hR⟩ : ∃ R, cntL l x l.length = R := ⟨_, rfl⟩
  rw [hR]
  have HR := Lib.hid hR
  obtain ⟨n, hl⟩ : ∃ n, n = l.length := ⟨_, rfl⟩
  rw [← hl] at hn ⊢
  have HL := Lib.hid hl
  clear hl hV hR
  go_enter Try.func120, Try.ntmps120
  go_wp2
  go_loop [5, 10] (fun s i => ∃ k : Nat, k ≤ n ∧ i = .int .i64 k ∧ s = .int .i64 (cntL l x k)) (fun _ i => n + 1 - (intOf i).toNat)
  case atStart => exact ⟨0, by omega, rfl, rfl⟩
  case round =>
    obtain ⟨k, hk, rfl, rfl⟩ := hrel
    by_cases hlt : k < n
    · have hk' : k < l.length := by have := HL.out; omega
      have hne : l.map intrA ≠ [] := fun e => by simp at e; rw [e] at hk'; simp at hk'
      obtain ⟨ea, eg⟩ := HV.out.1 hne
      subst ea
      have d0 : w.cell? ⟨g, k, none⟩ = some (.int .i64 l[k]) := by have := HV.out.2 k (intrA l[k]) (by simp [hk']) 0 (by omega); simpa [intrA] using this
      have hbd := HBD.out k
      have HST : Hid (cntL l x (k + 1) = cntL l x k + (if l[k] = x then 1 else 0)) := Lib.hid (by simp only [cntL, List.getElem?_eq_getElem hk', Option.some.injEq])
      have e1 : (k : Int) < (n : Int) := by omega
      have e0 : (0 : Int) ≤ (k : Int) := by omega
      clear hne
      generalize cntL l x k = s at hbd HST ⊢
      by_cases hx : l[k] = x
      · have HS2 : Hid (cntL l x (k + 1) = s + 1) := Lib.hid (by rw [HST.out, if_pos hx])
        have hb : (l[k] == x) = true := by simpa using hx
        clear HST hx
        generalize l[k] = y at d0 hb
        go_wp2
        go_round
        case rel => exact ⟨k + 1, by omega, by go_num, by rw [HS2.out]⟩
        case measure => simp [intOf]; omega
      · have HS2 : Hid (cntL l x (k + 1) = s) := Lib.hid (by rw [HST.out, if_neg hx, Int.add_zero])
        have hb : (l[k] == x) = false := by simpa using hx
        clear HST hx
        generalize l[k] = y at d0 hb
        go_wp2
        go_round
        case rel => exact ⟨k + 1, by omega, by go_num, by rw [HS2.out]⟩
        case measure => simp [intOf]; omega
    · obtain rfl : k = n := by omega
      have HR2 : Hid (cntL l x k = R) := Lib.hid (by rw [HL.out]; exact HR.out)
      go_wp2
      go_ret
      exact ⟨ret_int HR2.out, Below.refl _ _⟩

end Go.Proofs.Ytogiocinhjbdkaa

/- QueueLoads, the program. -/
namespace Go.Proofs.Ytogiocinhjbdkaa
open Go.RowKit
set_option linter.unusedSimpArgs false
set_option linter.unusedVariables false

def fillN (l : List Int) (q n j : Nat) : List Int := (List.range q).map fun (i : Nat) => if i < j then cntOf l (i : Int) n else 0
theorem fillN_len (l : List Int) (q n j : Nat) : (fillN l q n j).length = q := by simp [fillN]
theorem fillN_0 (l : List Int) (q n : Nat) : fillN l q n 0 = List.replicate q (0 : Int) := by
  apply List.ext_getElem? ; intro i; simp [fillN, List.getElem?_replicate]; split <;> simp_all
theorem fillN_at (l : List Int) (q n j i : Nat) (h : i < q) : (fillN l q n j)[i]? = some (if i < j then cntOf l (i : Int) n else 0) := by simp [fillN, h]
theorem fillN_end (l : List Int) (q n : Nat) : fillN l q n q = loadsN l q n := by
  apply List.ext_getElem?
  intro i
  by_cases hi : i < q
  · rw [fillN_at _ _ _ _ _ hi, loadsN_at _ _ _ _ hi, if_pos hi]
  · rw [List.getElem?_eq_none (by rw [fillN_len]; omega), List.getElem?_eq_none (by rw [loadsN_len]; omega)]
theorem fillN_step (l : List Int) (q n j : Nat) (h : j < q) : fillN l q n (j + 1) = (fillN l q n j).set j (cntOf l (j : Int) n) := by
  apply List.ext_getElem?
  intro i
  rw [List.getElem?_set]
  by_cases hi : i < q
  · rw [fillN_at _ _ _ _ _ hi, fillN_at _ _ _ _ _ hi]
    by_cases e : j = i
    · subst e; rw [if_pos (by omega)]; simp [fillN_len, hi]
    · rw [if_neg e]
      by_cases h2 : i < j
      · rw [if_pos (by omega), if_pos h2]
      · rw [if_neg (by omega), if_neg h2]
  · rw [List.getElem?_eq_none (by rw [fillN_len]; omega), List.getElem?_eq_none (by rw [fillN_len]; omega)]; split <;> simp_all [fillN_len]

set_option maxHeartbeats 4000000 in
set_option maxRecDepth 100000 in
theorem impl_loads (e : SpreadM) (q : Int) (fs : List FlowM) (S0 S2 : Nat → Prop) (v0 v2 : Value) (w : World) (hk : e.xKey.size ≤ 4194304) (hn : e.xTable.length ≤ 2097152) (hf : fs.length ≤ 2097152) (R0 : SpreadM.Rep w S0 e v0) (R2 : Row w S2 151 5 v2 (fs.map FlowM.arr)) :
    Calls Try.prog 64 #[v0, .int .i64 q, v2] w (AnsLoads w (loadsM e q fs)) := by
  obtain ⟨S3, v3, rfl, R3, hS3⟩ := R0
  have HOK : Hid (∀ W, Below w.heap.size w W → Calls Try.prog 118 #[.agg #[.string e.xKey, v3], .int .i64 q] W fun r w' => r = .returned (.bool (okOf e q)) ∧ Below W.heap.size W w') := Lib.hid fun W h => impl_spreadok e.xKey v3 e.xTable.length 0 (fun j => e.xTable.getD j 0) q W hk (by omega) (IntRow.of_row (R3.later h))
  have HQ : Hid (∀ (fl : FlowM) W, Below w.heap.size w W → Calls Try.prog 119 #[.agg #[.string e.xKey, v3], .int .i64 q, fl.val] W fun r w' => r = .returned (.int .i64 (sqOf e q fl)) ∧ Below W.heap.size W w') := Lib.hid fun fl W h => impl_queue e.xKey v3 e.xTable.length 0 (fun j => e.xTable.getD j 0) q fl W hk (by omega) (IntRow.of_row (R3.later h))
  obtain ⟨as_, ns_, cs_, rfl⟩ := R3.form
  obtain ⟨a2, g2, c2, rfl, hV2, _⟩ := R2.open
  rw [List.length_map]
  have HV2 := Lib.hid hV2
  clear R3 hS3 R2 hV2
  obtain ⟨nf, hl⟩ : ∃ m, m = fs.length := ⟨_, rfl⟩
  have hfL := hf
  rw [← hl] at hf ⊢
  have HL := Lib.hid hl
  clear hl hn
  obtain ⟨R, hR⟩ : ∃ R, loadsM e q fs = R := ⟨_, rfl⟩
  rw [hR]
  have HR := Lib.hid hR
  clear hR
  by_cases hB : okOf e q = true
  case neg =>
    have hB' := Bool.eq_false_iff.2 hB
    rw [hB'] at HOK
    obtain rfl : [] = R := ((if_neg hB : loadsM e q fs = []).symm.trans HR.out)
    clear hB hB'
    go_enter Try.func64, Try.ntmps64
    go_upto_region 1 with fail
    obtain ⟨w1, hw_⟩ : ∃ x, x = (w.alloc (.cells #[.string e.xKey, .slice as_ ns_ cs_] 68)) := ⟨_, rfl⟩
    have hb1 : Below w.heap.size w w1 := hw_ ▸ below_new _
    have HP0 : Hid (Box w1 (w.heap.size) #[.string e.xKey, .slice as_ ns_ cs_] 68) := Lib.hid (by rw [hw_]; repeat (first | (with_reducible exact HP0.out) | (with_reducible exact HP1.out) | (with_reducible exact HP2.out) | (with_reducible exact HP3.out) | (with_reducible exact HP4.out) | (with_reducible exact HP5.out) | (with_reducible exact HP6.out) | (with_reducible exact HP7.out) | (with_reducible exact HP8.out) | (with_reducible exact HP9.out) | (with_reducible exact HP10.out) | (with_reducible exact HP11.out) | (with_reducible exact HQ0.out) | (with_reducible exact HQ1.out) | (with_reducible exact HQ2.out) | (with_reducible exact HQ3.out) | (with_reducible apply Box.new) | (with_reducible apply Box.newAt; simp; done) | (with_reducible apply Box.set) | (with_reducible apply Box.skip; omega) | (with_reducible apply Box.alloc) | (with_reducible apply Box.drew) | (with_reducible apply Box.row) | (with_reducible apply Box.skipRow; omega)))
    have hl0 : w.heap.size < w1.heap.size := HP0.out.lt
    rw [← hw_]
    clear hw_
    have k0_0 := HP0.out.cell 0 (by simp)
    have k0_1 := HP0.out.cell 1 (by simp)
    have fr0 := fun o => HP0.out.frozen o
    (try simp only [List.getElem_toArray, List.getElem_cons_zero, List.getElem_cons_succ] at k0_0)
    (try simp only [List.getElem_toArray, List.getElem_cons_zero, List.getElem_cons_succ] at k0_1)
    have HB1 := Lib.hid hb1
    go_wp2_with (go_at_call 118; refine (HOK.out _ (by repeat (first | with_reducible exact Below.refl _ _ | with_reducible exact below_new _ | with_reducible exact below_drew | with_reducible exact HB9.out | with_reducible exact HB8.out | with_reducible exact HB7.out | with_reducible exact HB6.out | with_reducible exact HB5.out | with_reducible exact HB4.out | with_reducible exact HB3.out | with_reducible exact HB2.out | with_reducible exact HB1.out | ((with_reducible refine Below.setCell ?_ ?_ _); rotate_left; first | omega | (dsimp only; omega) | (simp; done) | (simp; omega)) | ((with_reducible refine below_setRow ?_ ?_ _); rotate_left; first | omega | (dsimp only; omega) | (simp; done) | (simp; omega)) | (with_reducible apply below_comp; rotate_left; first | with_reducible exact HB9.out | with_reducible exact HB8.out | with_reducible exact HB7.out | with_reducible exact HB6.out | with_reducible exact HB5.out | with_reducible exact HB4.out | with_reducible exact HB3.out | with_reducible exact HB2.out | with_reducible exact HB1.out | with_reducible assumption | with_reducible exact below_new _ | with_reducible exact below_drew)))).mono ?_; rintro e_ w2 ⟨rfl, hb2⟩; have HB2 := Lib.hid (below_comp HB1.out hb2); have HP2 := Lib.hid (HP0.out.later hb2); clear hb2)
    go_ret
    exact ⟨_, rfl, Row.nil _ _ _ _ _ _, HB2.out⟩
  rw [hB] at HOK
  obtain ⟨⟨hq1, hq4⟩, hsq⟩ := okOf_bd hB
  have HSQ := Lib.hid hsq
  obtain ⟨nq, rfl⟩ : ∃ m : Nat, q = m := ⟨q.toNat, by omega⟩
  have HRR : Hid (loadsN (fs.map (sqOf e nq)) nq fs.length = R) := Lib.hid ((if_pos hB : loadsM e nq fs = _).symm.trans HR.out)
  have hq1' : 1 ≤ nq := by omega
  have hq4' : nq ≤ 4 := by omega
  clear hsq hB HR hq1 hq4
  obtain ⟨i0, hi, hz0, hz1, hz2⟩ := info_parts Try.infoI
  go_enter Try.func64, Try.ntmps64
  go_upto_region 1 with fail
  obtain ⟨w1, hw_⟩ : ∃ x, x = (w.alloc (.cells #[.string e.xKey, .slice as_ ns_ cs_] 68)) := ⟨_, rfl⟩
  have hb1 : Below w.heap.size w w1 := hw_ ▸ below_new _
  have HP0 : Hid (Box w1 (w.heap.size) #[.string e.xKey, .slice as_ ns_ cs_] 68) := Lib.hid (by rw [hw_]; repeat (first | (with_reducible exact HP0.out) | (with_reducible exact HP1.out) | (with_reducible exact HP2.out) | (with_reducible exact HP3.out) | (with_reducible exact HP4.out) | (with_reducible exact HP5.out) | (with_reducible exact HP6.out) | (with_reducible exact HP7.out) | (with_reducible exact HP8.out) | (with_reducible exact HP9.out) | (with_reducible exact HP10.out) | (with_reducible exact HP11.out) | (with_reducible exact HQ0.out) | (with_reducible exact HQ1.out) | (with_reducible exact HQ2.out) | (with_reducible exact HQ3.out) | (with_reducible apply Box.new) | (with_reducible apply Box.newAt; simp; done) | (with_reducible apply Box.set) | (with_reducible apply Box.skip; omega) | (with_reducible apply Box.alloc) | (with_reducible apply Box.drew) | (with_reducible apply Box.row) | (with_reducible apply Box.skipRow; omega)))
  have hl0 : w.heap.size < w1.heap.size := HP0.out.lt
  rw [← hw_]
  clear hw_
  have k0_0 := HP0.out.cell 0 (by simp)
  have k0_1 := HP0.out.cell 1 (by simp)
  have fr0 := fun o => HP0.out.frozen o
  (try simp only [List.getElem_toArray, List.getElem_cons_zero, List.getElem_cons_succ] at k0_0)
  (try simp only [List.getElem_toArray, List.getElem_cons_zero, List.getElem_cons_succ] at k0_1)
  have HB1 := Lib.hid hb1
  go_wp2_with (go_at_call 118; refine (HOK.out _ (by repeat (first | with_reducible exact Below.refl _ _ | with_reducible exact below_new _ | with_reducible exact below_drew | with_reducible exact HB9.out | with_reducible exact HB8.out | with_reducible exact HB7.out | with_reducible exact HB6.out | with_reducible exact HB5.out | with_reducible exact HB4.out | with_reducible exact HB3.out | with_reducible exact HB2.out | with_reducible exact HB1.out | ((with_reducible refine Below.setCell ?_ ?_ _); rotate_left; first | omega | (dsimp only; omega) | (simp; done) | (simp; omega)) | ((with_reducible refine below_setRow ?_ ?_ _); rotate_left; first | omega | (dsimp only; omega) | (simp; done) | (simp; omega)) | (with_reducible apply below_comp; rotate_left; first | with_reducible exact HB9.out | with_reducible exact HB8.out | with_reducible exact HB7.out | with_reducible exact HB6.out | with_reducible exact HB5.out | with_reducible exact HB4.out | with_reducible exact HB3.out | with_reducible exact HB2.out | with_reducible exact HB1.out | with_reducible assumption | with_reducible exact below_new _ | with_reducible exact below_drew)))).mono ?_; rintro e_ w2 ⟨rfl, hb2⟩; have HB2 := Lib.hid (below_comp HB1.out hb2); have HP2 := Lib.hid (HP0.out.later hb2); clear hb2)
  have hw2 : w.heap.size + 1 ≤ w2.heap.size := HP2.out.lt
  clear HP0 HB1 k0_0 k0_1 fr0 hl0
  go_loopw [7, 18] (fun v i wr => ∃ k : Nat, k ≤ nf ∧ i = .int .i64 k ∧ ∃ p qq, v = .slice p k qq ∧ Hid (Ownd wr (w.heap.size + 1) 3 1 (.slice p k qq) (((fs.map (sqOf e nq)).take k).map intrA)) ∧ Hid (Box wr w.heap.size #[.string e.xKey, .slice as_ ns_ cs_] 68) ∧ Hid (Below w.heap.size w wr) ∧ w.heap.size + 1 ≤ wr.heap.size) (fun _ i _ => nf + 1 - (intOf i).toNat)
  case atStart => exact ⟨0, by omega, rfl, none, 0, rfl, Lib.hid (Ownd.nil _ _ _ _ _), HP2, HB2, hw2⟩
  case round =>
    clear HP2 HB2 hw2
    obtain ⟨k, hk, rfl, p, qq, rfl, HO, HP, HB1, hz⟩ := hrel
    by_cases hlt : k < nf
    · have hk' : k < fs.length := by have := HL.out; omega
      have e1 : (k : Int) < (nf : Int) := by omega
      have e0 : (0 : Int) ≤ (k : Int) := by omega
      have hne : fs.map FlowM.arr ≠ [] := fun e => by simp at e; rw [e] at hk'; simp at hk'
      obtain ⟨ea, eg⟩ := HV2.out.1 hne
      subst ea
      clear hne
      have HC : Hid (wr.rangeAt g2 (k * 5) fs[k].arr.toList) := Lib.hid fun j u hu => by
        have hj : j < 5 := (List.getElem?_eq_some_iff.1 hu).1
        rw [(HV2.out.later HB1.out).2 k fs[k].arr (by simp [hk']) j hj]; simpa using hu
      have HE0 := Lib.hid fun W (h : Below w.heap.size w W) => HQ.out fs[k] W h
      have hx := HSQ.out fs[k]
      have HTK : Hid ((fs.map (sqOf e nq)).take (k + 1) = (fs.map (sqOf e nq)).take k ++ [sqOf e nq fs[k]]) := Lib.hid (by rw [List.take_succ_eq_append_getElem (by simpa using hk')]; simp)
      have HLT : Hid (((fs.map (sqOf e nq)).take k).length = k) := Lib.hid (by simp; omega)
      have HLT2 : Hid (((fs.map (sqOf e nq)).take (k + 1)).length = k + 1) := Lib.hid (by simp; omega)
      generalize sqOf e nq fs[k] = x at hx HE0 HTK
      generalize fs[k] = fl at HE0 HC
      have LD : ∀ (ops : Array Oper) (rest : List Oper) (op : Oper) (b : Act) (Q : Exit → Act → World → Prop) (hgd : op.guard = none) (ty : TypeId) (xx : Operand) (ho : op.op = .load ty xx), ty = 151 → b.eval xx = .pointer (some ⟨g2, k * 5, none⟩) → wpList Try.prog ops Q rest (b.put op.dst (.agg #[.int .i64 fl.kind, .int .i64 fl.sip, .int .i64 fl.dip, .int .i64 fl.sport, .int .i64 fl.dport])) wr → wpList Try.prog ops Q (op :: rest) b wr := fun ops rest op b Q hgd ty xx ho ht hx h => by
        subst ht
        exact wpList_load_mid hgd _ xx ho g2 (k * 5) hx fl.arr.toList _ HC.out Try.underlying151 rfl (by kernel_rfl) h
      have HLD := Lib.hid LD
      clear LD HC
      have HE : Hid (∀ W, Below w.heap.size w W → Calls Try.prog 119 #[.agg #[.string e.xKey, .slice as_ ns_ cs_], .int .i64 nq, .agg #[.int .i64 fl.kind, .int .i64 fl.sip, .int .i64 fl.dip, .int .i64 fl.sport, .int .i64 fl.dport]] W fun r w' => r = .returned (.int .i64 x) ∧ Below W.heap.size W w') := Lib.hid HE0.out
      clear HE0
      have k0_0 := HP.out.cell 0 (by simp)
      have k0_1 := HP.out.cell 1 (by simp)
      simp only [List.getElem_toArray, List.getElem_cons_zero, List.getElem_cons_succ] at k0_0 k0_1
      have fr0 := fun o => HP.out.frozen o
      have hl0 := HP.out.lt
      go_wp2_with (first | (refine HLD.out _ _ _ _ _ rfl 151 (.tmp 20) rfl rfl (by go_simp) ?_) | (go_at_call 119; refine (HE.out _ (by repeat (first | with_reducible exact Below.refl _ _ | with_reducible exact below_new _ | with_reducible exact below_drew | with_reducible exact HB9.out | with_reducible exact HB8.out | with_reducible exact HB7.out | with_reducible exact HB6.out | with_reducible exact HB5.out | with_reducible exact HB4.out | with_reducible exact HB3.out | with_reducible exact HB2.out | with_reducible exact HB1.out | ((with_reducible refine Below.setCell ?_ ?_ _); rotate_left; first | omega | (dsimp only; omega) | (simp; done) | (simp; omega)) | ((with_reducible refine below_setRow ?_ ?_ _); rotate_left; first | omega | (dsimp only; omega) | (simp; done) | (simp; omega)) | (with_reducible apply below_comp; rotate_left; first | with_reducible exact HB9.out | with_reducible exact HB8.out | with_reducible exact HB7.out | with_reducible exact HB6.out | with_reducible exact HB5.out | with_reducible exact HB4.out | with_reducible exact HB3.out | with_reducible exact HB2.out | with_reducible exact HB1.out | with_reducible assumption | with_reducible exact below_new _ | with_reducible exact below_drew)))).mono ?_; rintro e_ w5 ⟨rfl, hb5⟩; have HO5 := Lib.hid (HO.out.later (below_comp (below_new _) hb5)); have HP5 := Lib.hid ((HP.out.later (below_new _)).later hb5); have HB5 := Lib.hid (below_comp (below_comp HB1.out (below_new _)) hb5); have hz5 := hb5.size; (try simp at hz5); (have hz5' : w.heap.size + 1 ≤ w5.heap.size := by omega); clear hb5) | ((with_reducible show wpList _ _ _ _ _ _); refine wpList_append_e rfl (.tmp 22) (.tmp 27) rfl (B := w.heap.size + 1) elem_int el_int (v := .slice p k qq) (xs := (fs.map (sqOf e nq)).take k) (by simp [go_sem, Act.eval]) (HO5.out.later (below_new _)) (a := some ⟨w5.heap.size, 0, none⟩) (g := w5.heap.size) (o := 0) 1 (ys := [x]) (by simp [go_sem, Act.eval]) (by exact ViewAt.lit (Box.new _ _ _)) (by rw [HLT.out]; simp; omega) (by simp; omega) ?_; intro v6 w6 ho ht))
      rw [← HTK.out] at ho
      obtain ⟨p6, q6, hf6⟩ := ho.form
      rw [List.length_map, HLT2.out] at hf6
      subst hf6
      have HO6 := Lib.hid ho
      have HP6 := Lib.hid ((HP5.out.later (below_new _)).touch ht (fun h => by have := h.1; omega))
      have HB6 := Lib.hid (OB.below (below_comp HB5.out (below_new _)) ht (by omega))
      have hz6 : w.heap.size + 1 ≤ w6.heap.size := by have := ht.size; simp at this; omega
      clear ho ht
      go_roundw
      case rel => exact ⟨k + 1, by omega, by go_num, p6, q6, rfl, HO6, HP6, HB6, hz6⟩
      case measure => simp [intOf]; omega
    · obtain rfl : k = nf := by omega
      have HKL : Hid (k = fs.length) := Lib.hid HL.out
      have HFT : Hid ((fs.map (sqOf e nq)).take k = (fs.map (sqOf e nq))) := Lib.hid (List.take_of_length_le (by have := HKL.out; simp; omega))
      have HLL : Hid ((fs.map (sqOf e nq)).length = k) := Lib.hid (by have := HKL.out; simp; omega)
      have HO2 := HO.out
      rw [HFT.out] at HO2
      have hr0 := HO2.row (el_int.sizes _)
      go_wp2_with (at_make; refine wpList_make_full _ rfl _ _ 48 rfl wr.heap.size 3 i0 _ 1 Try.underlying48 hi hz0 hz1 .i64 .i64 _ _ nq rfl rfl rfl rfl (by rw [hz2]; omega) (by unfold maxLen; omega) (Nat.le_refl _) ?_; intro w3 hown3 hgrow3)
      have hb3 : Below wr.heap.size wr w3 := (Below.refl _ _).grown hgrow3 (Nat.le_refl _) (by intro k hk; cases hk)
      obtain ⟨g7, hg7⟩ : ∃ g7, g7 = wr.heap.size := ⟨_, rfl⟩
      have hlt7 : w.heap.size < g7 := by omega
      have HR0 : Hid (Row w3 (fun x => g7 ≤ x) 3 1 (.slice (some ⟨g7, 0, none⟩) nq nq) ((fillN (fs.map (sqOf e nq)) nq k 0).map intrA)) := Lib.hid (by
        have h := made_flat (intrA 0) nq (by decide)
        rw [show (intrA 0).size = 1 from rfl] at h
        have h1 : w3.ownsRow wr.heap.size 3 1 (.slice (some ⟨wr.heap.size, 0, none⟩) nq nq) nq ((List.replicate nq (intrA 0)).flatMap (·.toList)) := by rw [← h]; exact hown3
        have h2 := Row.of_own h1 (by simp) (fun x hx => by rw [(List.mem_replicate.1 hx).2]; rfl)
        rw [fillN_0, List.map_replicate, hg7]
        exact h2.mono (fun k hk => hk.1))
      have HC0 : Hid (Row w3 (fun x => w.heap.size < x ∧ x < g7) 3 1 (.slice p k qq) ((fs.map (sqOf e nq)).map intrA)) := Lib.hid ((hr0.mono (fun x hx => by have h1 := hx.1; have h2 := hx.2; show w.heap.size < x ∧ x < g7; omega)).later hb3)
      rw [← hg7]
      have HB3 := Lib.hid (below_comp HB1.out hb3)
      clear hown3 hgrow3 hb3 hr0 HO2 hg7 HO HP HB1 hz
      go_loopw [34] (fun i w9 => ∃ j : Nat, j ≤ nq ∧ i = .int .i64 j ∧ Hid (Row w9 (fun x => g7 ≤ x) 3 1 (.slice (some ⟨g7, 0, none⟩) nq nq) ((fillN (fs.map (sqOf e nq)) nq k j).map intrA)) ∧ Hid (Row w9 (fun x => w.heap.size < x ∧ x < g7) 3 1 (.slice p k qq) ((fs.map (sqOf e nq)).map intrA)) ∧ Hid (Below w.heap.size w w9)) (fun i _ => nq + 1 - (intOf i).toNat)
      case atStart => exact ⟨0, by omega, rfl, HR0, HC0, HB3⟩
      case round =>
        clear HR0 HC0 HB3
        obtain ⟨j, hj, rfl, HRF, HRC, HB⟩ := hrel
        by_cases hjl : j < nq
        · have ej : (j : Int) < (nq : Int) := by omega
          have ej0 : (0 : Int) ≤ (j : Int) := by omega
          have hat : (fillN (fs.map (sqOf e nq)) nq k j)[j]? = some 0 := by rw [fillN_at _ _ _ _ _ hjl, if_neg (by omega)]
          have HST := Lib.hid (fillN_step (fs.map (sqOf e nq)) nq k j hjl)
          obtain ⟨a', g9, c', e', hV', _⟩ := HRC.out.open
          rw [List.length_map, HLL.out] at e'
          cases e'
          have HCT : Hid (∀ W, Below wr.heap.size wr W → Calls Try.prog 120 #[.slice p k qq, .int .i64 (j : Int)] W fun r_ w' => r_ = .returned (.int .i64 (cntOf (fs.map (sqOf e nq)) (j : Int) k)) ∧ Below W.heap.size W w') := Lib.hid fun W h => by
            have t := impl_countof p g9 qq (fs.map (sqOf e nq)) (j : Int) W (by rw [HLL.out]; omega) (hV'.later h)
            rw [cntL_eq, HLL.out] at t
            exact t
          clear hV'
          have HSM : Hid (((fillN (fs.map (sqOf e nq)) nq k j).map intrA).set j ((intrA 0).setIfInBounds 0 (.int .i64 (cntOf (fs.map (sqOf e nq)) (j : Int) k))) = (fillN (fs.map (sqOf e nq)) nq k (j + 1)).map intrA) := Lib.hid (by rw [HST.out, List.map_set]; rfl)
          generalize cntOf (fs.map (sqOf e nq)) (j : Int) k = cv at HCT HST HSM
          have HAT := Lib.hid hat
          clear hat
          go_wp2_with (go_at_call 120; refine (HCT.out _ (by exact Below.refl _ _)).mono ?_; rintro e_ w10 ⟨rfl, hb10⟩; obtain ⟨g', c', cur, e', hS', hgl, ⟨old, hold⟩, hfr, hset⟩ := (HRF.out.later hb10).setAt (el_int.sizes _) (i := j) (j := 0) (x := intrA 0) (by rw [List.getElem?_map, HAT.out]; rfl) (by omega); rw [List.length_map, fillN_len] at e'; cases e'; have HSET := Lib.hid (hset (.int .i64 cv)); have HRC10 := Lib.hid (HRC.out.later hb10); have HB10 := Lib.hid (below_comp HB.out hb10); rw [Nat.mul_one, Nat.add_zero] at hold hfr HSET; clear hset hgl hS' hb10)
          rw [HSM.out] at HSET
          have HRC11 := Lib.hid (HRC10.out.set (b := g7) (j := j) (x := .int .i64 cv) (fun h => by have := h.2; omega))
          have HB11 := Lib.hid (Below.setCell HB10.out (p := ⟨g7, j, none⟩) (by dsimp only; omega) (.int .i64 cv))
          go_roundw
          case rel => exact ⟨j + 1, by omega, by go_num, HSET, HRC11, HB11⟩
          case measure => simp [intOf]; omega
        · obtain rfl : j = nq := by omega
          have hrr := HRR.out
          have hfe := HRF.out
          rw [fillN_end, HKL.out, hrr] at hfe
          have HF := Lib.hid (hfe.tight (B := w.heap.size) (fun k hk => by have h1 : g7 ≤ k := hk; omega))
          clear hrr hfe HRF
          go_wp2
          go_ret
          exact ⟨_, rfl, HF.out, HB.out⟩

end Go.Proofs.Ytogiocinhjbdkaa

/- Struct arguments opened to their cells. -/
namespace Go.Proofs.Ytogiocinhjbdkaa
open Go.Joins Go.ChangeShapes Go.WideShapes Go.RowKit Go.Deep
set_option linter.unusedVariables false
section
variable {H : Type} {enc : TypeId × Value → H} {P : Program} {w : World} {base : Nat} {spare : Nat → Bool} {held : Bool}

/-- The cells of a struct, each field by its offset and size. -/
theorem open_parts {t : TypeId} {fs : Array Field} {fuel : Nat} {cs : List Value} {x : DataW H × List MemPlace} (hs : P.underlying t = some (.struct fs)) (h : DataW.trod enc P w base spare held fuel t cs = some x) :
    ∀ (j : Nat) (f : Field), fs[j]? = some f → ∃ (y : DataW H × List MemPlace) (n : Nat), DataW.trod enc P w base spare held n f.type ((cs.drop f.offset).take (P.cellsOf f.type)) = some y := by
  obtain ⟨xs, n, _, _, _, hlen, hg⟩ := DataW.trod_struct hs h
  intro j f hj
  have hj' : j < fs.size := (Array.getElem?_eq_some_iff.1 hj).1
  have h1 := hg j f hj
  exact ⟨xs[j]'(by omega), n, h1.trans (List.getElem?_eq_getElem (by omega))⟩
/-- A field of one cell that is an int. -/
theorem part_int {t : TypeId} {k : IntKind} {n : Nat} {x : Value} {y : DataW H × List MemPlace} (ht : P.underlying t = some (.int k)) (h : DataW.trod enc P w base spare held n t [x] = some y) : ∃ a : Int, x = .int k a ∧ (Lit.int k a).wf = true := by
  obtain ⟨a, h1, _, h3⟩ := DataW.trod_int ht h
  exact ⟨a, by simpa using h1, h3⟩
theorem part_string {t : TypeId} {n : Nat} {x : Value} {y : DataW H × List MemPlace} (ht : P.underlying t = some .string) (h : DataW.trod enc P w base spare held n t [x] = some y) : ∃ s : ByteArray, x = .string s ∧ s.size ≤ maxLen := by
  obtain ⟨a, h1, _, h3⟩ := DataW.trod_string ht h
  exact ⟨a, by simpa using h1, h3⟩
theorem part_bool {t : TypeId} {n : Nat} {x : Value} {y : DataW H × List MemPlace} (ht : P.underlying t = some .bool) (h : DataW.trod enc P w base spare held n t [x] = some y) : ∃ b : Bool, x = .bool b := by
  obtain ⟨a, h1, _⟩ := DataW.trod_bool ht h
  exact ⟨a, by simpa using h1⟩
end

end Go.Proofs.Ytogiocinhjbdkaa

/- Rows that came in: their elements; loads from wherever. -/
namespace Go.Proofs.Ytogiocinhjbdkaa
open Go.Joins Go.ChangeShapes Go.WideShapes Go.RowKit Go.Deep
/-- The elements of a row that came in. -/
def EltsL (w : World) (a : Option Addr) (m : Nat) (xs : List (Array Value)) : Prop := ∀ i x, xs[i]? = some x → ∃ y, a = some y ∧ y.block < w.heap.size ∧ ∀ j, j < m → w.cell? ((y.add (i * m)).add j) = x[j]?
theorem EltsL.below {w w' : World} {a : Option Addr} {m : Nat} {xs : List (Array Value)} (h : EltsL w a m xs) {B : Nat} (hb : Below B w w') (hB : w.heap.size ≤ B) : EltsL w' a m xs := by
  refine fun i x hx => ?_
  obtain ⟨y, h1, h3, h2⟩ := h i x hx
  refine ⟨y, h1, Nat.lt_of_lt_of_le h3 hb.size, fun j hj => ?_⟩
  rw [← h2 j hj]
  exact hb.cell (p := (y.add (i * m)).add j) (by rw [add_block, add_block]; omega)
theorem EltsL.later {w w' : World} {a : Option Addr} {m : Nat} {xs : List (Array Value)} (h : EltsL w a m xs) (hb : Below w.heap.size w w') : EltsL w' a m xs := h.below hb (Nat.le_refl _)
section
variable {P : Program}
theorem run_loadVar_at (w : World) (A : Addr) (ty : TypeId) (cs : List Value) (d : TypeDesc) (hc : ∀ j v, cs[j]? = some v → w.cell? (A.add j) = some v)
    (hu : P.underlying ty = some d) (hd : d.isRow = true) (hi : (P.info? ty).map (·.size) = some cs.length) :
    (loadVar ty A).run P w = .ok (.agg cs.toArray) w := by
  have hl : (loadCells A cs.length).run P w = .ok cs.toArray w := run_loadCells_list (P := P) w A cs hc
  cases hq : P.info? ty with
  | none => simp [hq] at hi
  | some i =>
    have hs : i.size = cs.length := by simpa [hq] using hi
    have hagg : (isAgg ty).run P w = .ok true w := by
      unfold isAgg
      rw [Sem.run_bind, run_underlying hu w]
      cases d <;> simp_all
    simp [loadVar, Sem.run_bind, hagg, sizeOf, typeInfo, hq, hs, hl]
theorem wpList_load_at {ops : Array Oper} {rest : List Oper} {op : Oper} {a : Act} {w : World} {Q : Exit → Act → World → Prop} (hgd : op.guard = none) (ty : TypeId) (x : Operand) (ho : op.op = .load ty x)
    (A : Addr) (hx : a.eval x = .pointer (some A)) (cs : List Value) (d : TypeDesc) (hc : ∀ j v, cs[j]? = some v → w.cell? (A.add j) = some v)
    (hu : P.underlying ty = some d) (hd : d.isRow = true) (hi : (P.info? ty).map (·.size) = some cs.length)
    (h : wpList P ops Q rest (a.put op.dst (.agg cs.toArray)) w) : wpList P ops Q (op :: rest) a w :=
  wpList_plain hgd fun _ hK => by
    unfold Oper.wp execOp
    simp only [ho, hx, Instr.loadAt, Instr.sureAddr, Sem.run_bind, Sem.run_pure, Result.andThen_ok, run_loadVar_at w A ty cs d hc hu hd hi]
    exact hK _ _ h
variable {H : Type} {enc : TypeId × Value → H} {w : World} {base : Nat} {spare : Nat → Bool} {held : Bool}
/-- A slice of whatever elements that are flat: its elements, one after the other. -/
theorem open_row {α : Type} {arr : α → Array Value} {Wf : α → Prop} {t e : TypeId} {m fuel : Nat} {c : Value} {x : DataW H × List MemPlace} (ht : P.underlying t = some (.slice e)) (hm : P.cellsOf e = m) (hm0 : 0 < m)
    (hel : ∀ n cs y, DataW.trod enc P w base spare held n e cs = some y → ∃ z : α, cs = (arr z).toList ∧ Wf z)
    (h : DataW.trod enc P w base spare held fuel t [c] = some x) :
    ∃ (a : Option Addr) (cap : Nat) (l : List α), c = .slice a l.length cap ∧ EltsL w a m (l.map arr) ∧ l.length ≤ maxLen ∧ ∀ z ∈ l, Wf z := by
  rcases open_slice ht h with ⟨hcs, _⟩ | ⟨a, len, cap, q, n, D, Pl, hcs, hb, hl, hmx, hq, _, hx⟩
  · obtain rfl : c = .slice none 0 0 := by simpa using hcs
    exact ⟨none, 0, [], rfl, fun i x hx => by simp at hx, Nat.zero_le _, fun z hz => by simp at hz⟩
  obtain rfl : c = .slice (some a) len cap := by simpa using hcs
  have hql : len ≤ q := by rw [hq]; split <;> omega
  have key : ∀ k, k ≤ len → ∃ l : List α, l.length = k ∧ EltsL w (some a) m (l.map arr) ∧ ∀ z ∈ l, Wf z := by
    intro k
    induction k with
    | zero => intro _; exact ⟨[], rfl, fun i x hx => by simp at hx, fun z hz => by simp at hz⟩
    | succ k ih =>
      intro hk
      obtain ⟨l, hlen, hE, hW⟩ := ih (by omega)
      obtain ⟨cs', h1, h2⟩ := hx k (by omega)
      obtain ⟨z, hz, hwf⟩ := hel n cs' _ h2
      obtain ⟨_, hsz, hc⟩ := World.cells?_some h1
      rw [hm] at hsz hc
      refine ⟨l ++ [z], by simp [hlen], fun i x hi => ?_, fun y hy => ?_⟩
      · by_cases hik : i < k
        · exact hE i x (by rw [List.map_append, List.getElem?_append_left (by simp; omega)] at hi; exact hi)
        · have hil : i < (List.map arr (l ++ [z])).length := (List.getElem?_eq_some_iff.1 hi).1
          simp at hil
          obtain rfl : i = k := by omega
          rw [List.map_append, List.getElem?_append_right (by simp; omega)] at hi
          simp [hlen] at hi
          subst hi
          have hcell : ∀ j, j < m → w.cell? ((a.add (i * m)).add j) = (arr z)[j]? := fun j hj => by rw [hc j hj, hz]; simp
          refine ⟨a, rfl, ?_, hcell⟩
          have h0 := hcell 0 hm0
          have h3 : 0 < (arr z).size := by have := hsz; rw [hz] at this; simp at this; omega
          rw [Array.getElem?_eq_getElem h3] at h0
          have := block_lt_of_cell h0
          rwa [add_block, add_block] at this
      · rcases List.mem_append.1 hy with hy | hy
        · exact hW y hy
        · rw [List.mem_singleton.1 hy]; exact hwf
  obtain ⟨l, hlen, hE, hW⟩ := key len (Nat.le_refl _)
  exact ⟨some a, cap, l, by rw [hlen], hE, by rw [hlen]; omega, hW⟩
end
end Go.Proofs.Ytogiocinhjbdkaa

/- Rows of ints that came in: to, sz, and how they are opened. -/
namespace Go.Proofs.Ytogiocinhjbdkaa
open Go.RowKit
set_option linter.unusedSimpArgs false
set_option linter.unusedVariables false

theorem Try.info_intr : (Try.prog.info? 3).map (fun i => (i.zero, i.size, i.bytes)) = some (some (.int .i64 0), 1, 8) := by kernel_rfl
theorem elem_intr : Elem Try.prog 48 3 (.int .i64 0) 1 8 := ⟨Try.underlying48, info_parts Try.info_intr, by decide, by decide⟩
def Own_intr (w : World) (l : List Int) (e : Ending) (w' : World) : Prop := ∃ v, e = .returned v ∧ Row w' (Rng w.heap.size w'.heap.size) 3 1 v (l.map intrA) ∧ Below w.heap.size w w'

set_option maxHeartbeats 4000000 in
set_option maxRecDepth 100000 in
theorem to_intrs (a : Option Addr) (cap : Nat) (l : List Int) (w : World) (hn : l.length ≤ 2097152) (h : EltsL w a 1 (l.map intrA)) :
    Calls Try.prog 43 #[.slice a l.length cap] w (Own_intr w l) := by
  have H := Lib.hid h
  clear h
  obtain ⟨n, hl⟩ : ∃ n, n = l.length := ⟨_, rfl⟩
  rw [← hl] at hn ⊢
  have HL := Lib.hid hl
  clear hl
  obtain ⟨i0, hi, hz0, hz1, hz2⟩ := info_parts Try.info_intr
  go_enter Try.func43, Try.ntmps43
  go_wp2_with (at_make; refine wpList_make_full _ rfl _ _ 48 rfl w.heap.size 3 i0 _ 1 Try.underlying48 hi hz0 hz1 .i64 .i64 _ _ n rfl rfl rfl rfl (by rw [hz2]; omega) (by unfold maxLen; omega) (Nat.le_refl _) ?_; intro w0 hown0 hgrow0)
  have HB0 : Hid (Below w.heap.size w w0) := Lib.hid ((Below.refl _ _).grown hgrow0 (Nat.le_refl _) (by intro k hk; cases hk))
  have HU0 : Hid (Upto w0 w.heap.size 3 1 n 0 0 (fun i => ((l.map intrA).getD i #[]))) := Lib.hid (by
    obtain ⟨_, ⟨h, _⟩ | ⟨g, cap, cur, hv, hb, hg, hc, hm, hs, ht⟩⟩ := hown0
    · cases h
    · cases hv
      exact Upto.start hg (by omega))
  clear hown0 hgrow0
  go_loopw [4] (fun i wr => ∃ k : Nat, k ≤ n ∧ i = .int .i64 k ∧ Hid (Upto wr w.heap.size 3 1 n k 0 (fun i => ((l.map intrA).getD i #[]))) ∧ Hid (Below w.heap.size w wr)) (fun i _ => n + 1 - (intOf i).toNat)
  case atStart => exact ⟨0, by omega, rfl, HU0, HB0⟩
  case round =>
    clear HU0 HB0
    obtain ⟨k, hk, rfl, HU, HB⟩ := hrel
    by_cases hlt : k < n
    · have hk' : k < l.length := by have := HL.out; omega
      obtain ⟨x, rfl, hx1, hx2⟩ := (H.out.later HB.out) k (intrA l[k]) (by simp [hk'])
      have HF : Hid (((fun i => ((l.map intrA).getD i #[])) k)[0]? = some (.int .i64 l[k])) := Lib.hid (by simp [hk', intrA])
      have d0 : wr.cell? (x.add k) = some (.int .i64 l[k]) := by have := hx2 0 (by omega); simpa [Addr.add, intrA] using this
      generalize l[k] = e at d0 HF
      clear hx2
      have e1 : (k : Int) < (n : Int) := by omega
      have e0 : (0 : Int) ≤ (k : Int) := by omega
      obtain ⟨u, d1⟩ := HU.out.some_at k 0 hlt (by omega)
      have d2 : wr.frozen? ⟨w.heap.size, k, none⟩ = false := HU.out.fr _
      simp only [Nat.mul_one, Nat.add_zero] at d1
      have HU2 : Hid (Upto (wr.setCell ⟨w.heap.size, k, none⟩ (.int .i64 e)) w.heap.size 3 1 n (k + 1) 0 (fun i => ((l.map intrA).getD i #[]))) := Lib.hid (by
        have h := Upto.next (Upto.set0 HU.out hlt (by omega) HF.out)
        rwa [Nat.mul_one] at h)
      have HB2 : Hid (Below w.heap.size w (wr.setCell ⟨w.heap.size, k, none⟩ (.int .i64 e))) := Lib.hid (Below.setCell HB.out (Nat.le_refl _) _)
      go_wp2
      go_roundw
      case rel => exact ⟨k + 1, by omega, by go_num, HU2, HB2⟩
      case measure => simp [intOf]; omega
    · obtain rfl : k = n := by omega
      have HR : Hid (Row wr (Rng w.heap.size wr.heap.size) 3 1 (.slice (some ⟨w.heap.size, 0, none⟩) k k) (l.map intrA)) := Lib.hid (by
        have hl2 : (l.map intrA).length = k := by rw [List.length_map]; exact HL.out.symm
        have h2 : Upto wr w.heap.size 3 1 (l.map intrA).length (l.map intrA).length 0 (fun i => ((l.map intrA).getD i #[])) := by rw [hl2]; exact HU.out
        have h3 := h2.to_row (S := Rng w.heap.size wr.heap.size) (c := k) (fun i x hx => by simp only [List.getD_eq_getElem?_getD]; rw [hx]; rfl) ⟨Nat.le_refl _, HU.out.lt⟩ (by omega) (by unfold maxLen; omega)
        rw [hl2] at h3
        exact h3)
      go_wp2
      exact bodyPost_ret (v := .slice (some ⟨w.heap.size, 0, none⟩) k k) (by simp [results, Try.results43, go_sem]) rfl ⟨_, rfl, HR.out, HB.out⟩

def intr_sz (l : List Int) : Nat := l.length
set_option maxHeartbeats 4000000 in
set_option maxRecDepth 100000 in
theorem sz_intrs (a : Option Addr) (cap : Nat) (l : List Int) (left : Int) (w : World) (hl : l.length ≤ 9223372036854775807) (h : 0 ≤ left ∧ left ≤ 4194304) (_ : EltsL w a 1 (l.map intrA)) :
    Calls Try.prog 99 #[.slice a l.length cap, .int .i64 left] w fun e w' => e = .returned (.int .i64 (if left < (intr_sz l : Nat) then -1 else left - (intr_sz l : Nat))) ∧ Below w.heap.size w w' := by
  unfold intr_sz
  generalize l.length = len at hl ⊢
  by_cases hlt : left < len
  · rw [if_pos hlt]
    have h1 : left - len < 0 := by omega
    obtain ⟨h0, h2⟩ := h
    go_enter Try.func99, Try.ntmps99
    go_wp2
    go_ret
    exact ⟨rfl, Below.refl _ _⟩
  · rw [if_neg hlt]
    have h1 : ¬ left - len < 0 := by omega
    obtain ⟨h0, h2⟩ := h
    go_enter Try.func99, Try.ntmps99
    go_wp2
    go_ret
    exact ⟨rfl, Below.refl _ _⟩

namespace Op_intr
open Go.Joins Go.ChangeShapes Go.WideShapes Go.RowKit Go.Deep
section
variable {H : Type} {enc : TypeId × Value → H} {w : World} {base : Nat} {spare : Nat → Bool} {held : Bool}
theorem el {n0 : Nat} {cs : List Value} {x : DataW H × List MemPlace} (h : DataW.trod enc Try.prog w base spare held n0 3 cs = some x) : ∃ z : Int, cs = (intrA z).toList ∧ (fun x => I64 x) z := by
  obtain ⟨a, rfl, _⟩ := DataW.trod_int Try.underlying3 h
  obtain ⟨b, hb, w0⟩ := part_int Try.underlying3 h; exact ⟨b, by rw [hb]; rfl, i64_bd w0⟩
theorem row {fuel : Nat} {c : Value} {x : DataW H × List MemPlace} (h : DataW.trod enc Try.prog w base spare held fuel 48 [c] = some x) :
    ∃ (a : Option Addr) (cap : Nat) (l : List Int), c = .slice a l.length cap ∧ EltsL w a 1 (l.map intrA) ∧ l.length ≤ maxLen ∧ ∀ z ∈ l, (fun x => I64 x) z :=
  open_row Try.underlying48 (by kernel_rfl) (by omega) (fun _ _ _ h => el h) h
end
end Op_intr
end Go.Proofs.Ytogiocinhjbdkaa

/- Spread that came in: opened; the laws' to, sz. -/
namespace Go.Proofs.Ytogiocinhjbdkaa
open Go.RowKit
set_option linter.unusedSimpArgs false
set_option linter.unusedVariables false

/-- What a value that came in stands for. -/
def SpreadM.Arg (w : World) (e : SpreadM) (v : Value) : Prop := ∃ (x0 : Option Addr) (p0 : Nat), v = .agg #[.string e.xKey, .slice x0 e.xTable.length p0] ∧ EltsL w x0 1 (e.xTable.map intrA)
theorem SpreadM.Arg.below {w w' : World} {e : SpreadM} {v : Value} (h : e.Arg w v) {B : Nat} (hb : Below B w w') (hB : w.heap.size ≤ B) : e.Arg w' v := by
  obtain ⟨x0, p0, h0, E0⟩ := h
  exact ⟨x0, p0, h0, E0.below hb hB⟩
def SpreadM.Wf (e : SpreadM) : Prop := e.xKey.size ≤ maxLen ∧ (∀ z ∈ e.xTable, I64 z) ∧ e.xTable.length ≤ maxLen
def SpreadM.sz (e : SpreadM) : Nat := e.xKey.size + intr_sz e.xTable
namespace OpSpreadR
open Go.Joins Go.ChangeShapes Go.WideShapes Go.RowKit Go.Deep
section
variable {H : Type} {enc : TypeId × Value → H} {w : World} {base : Nat} {spare : Nat → Bool} {held : Bool}

set_option maxRecDepth 100000 in
theorem cells {n0 : Nat} {cs : List Value} {x : DataW H × List MemPlace} (hf : DataW.trod enc Try.prog w base spare held n0 66 cs = some x) : ∃ e : SpreadM, e.Arg w (.agg cs.toArray) ∧ e.Wf := by
  obtain ⟨_, _, _, _, hlen, _, _⟩ := DataW.trod_struct Try.underlying66 hf
  rw [show Try.prog.cellsOf 66 = 2 by kernel_rfl] at hlen
  match cs, hlen with
  | [c0, c1], _ =>
    obtain ⟨yq_0, nq_0, gq_0⟩ := open_parts Try.underlying66 hf 0 _ rfl
    have hq_0 : DataW.trod enc Try.prog w base spare held nq_0 9 [c0] = some yq_0 := by simpa [show Try.prog.cellsOf 9 = 1 by kernel_rfl] using gq_0
    obtain ⟨aq_0, rfl, wq_0⟩ := part_string Try.underlying9 hq_0
    obtain ⟨yq_1, nq_1, gq_1⟩ := open_parts Try.underlying66 hf 1 _ rfl
    have hq_1 : DataW.trod enc Try.prog w base spare held nq_1 48 [c1] = some yq_1 := by simpa [show Try.prog.cellsOf 48 = 1 by kernel_rfl] using gq_1
    obtain ⟨x0, p0, l0, rfl, E0, M0, W0⟩ := Op_intr.row hq_1
    exact ⟨⟨aq_0, l0⟩, ⟨x0, p0, rfl, E0⟩, ⟨wq_0, W0, M0⟩⟩
set_option maxRecDepth 100000 in
theorem opened {r : Reach} {b0 : Nat} {v : Value} {d : DataW H} {p : List MemPlace} (hv : Value.okWide Try.prog w r b0 66 v) (h : DataW.Trod enc Try.prog w base spare held 66 v d p) : ∃ e : SpreadM, e.Arg w v ∧ e.Wf := by
  obtain ⟨cs, rfl, hsz⟩ := okWide_struct Try.underlying66 hv
  obtain ⟨fuel, hf0⟩ := h
  have hf : DataW.trod enc Try.prog w base spare held fuel 66 cs.toList = some _ := hf0
  have := cells hf
  simpa using this
end
end OpSpreadR
def OwnSpread (w : World) (e : SpreadM) (r : Ending) (w' : World) : Prop := ∃ v, r = .returned v ∧ e.Rep w' (Rng w.heap.size w'.heap.size) v ∧ Below w.heap.size w w'
set_option maxHeartbeats 4000000 in
set_option maxRecDepth 100000 in
theorem to_spread (e : SpreadM) (v : Value) (w : World) (hn0 : e.xTable.length ≤ 2097152) (h : e.Arg w v) :
    Calls Try.prog 47 #[v] w (OwnSpread w e) := by
  obtain ⟨x0, p0, rfl, E0⟩ := h
  have HE0 := Lib.hid E0
  clear E0
  go_enter Try.func47, Try.ntmps47
  go_wp2_with fail
  refine (to_intrs x0 p0 e.xTable _ hn0 (HE0.out.below (B := w.heap.size) (by repeat (first | ((with_reducible refine Below.setCell ?_ ?_ _); rotate_left; first | omega | (dsimp only; omega) | (simp; done) | (simp; omega)) | ((with_reducible refine below_setRow ?_ ?_ _); rotate_left; first | omega | (dsimp only; omega) | (simp; done) | (simp; omega)) | with_reducible exact Below.refl _ _ | with_reducible exact below_new _ | with_reducible exact below_drew | with_reducible exact HB9.out | with_reducible exact HB8.out | with_reducible exact HB7.out | with_reducible exact HB6.out | with_reducible exact HB5.out | with_reducible exact HB4.out | with_reducible exact HB3.out | with_reducible exact HB2.out | with_reducible exact HB1.out | (with_reducible apply below_comp; rotate_left; first | with_reducible exact HB9.out | with_reducible exact HB8.out | with_reducible exact HB7.out | with_reducible exact HB6.out | with_reducible exact HB5.out | with_reducible exact HB4.out | with_reducible exact HB3.out | with_reducible exact HB2.out | with_reducible exact HB1.out | with_reducible assumption | with_reducible exact below_new _ | with_reducible exact below_drew))) (Nat.le_refl _))).mono ?_
  rintro r w1 ⟨v1, rfl, R1, hb1⟩
  have hzz1 := hb1.size
  (try simp at hzz1)
  obtain ⟨S1, R1', hlo1, hhi1⟩ : ∃ S, Row w1 S 3 1 v1 (e.xTable.map intrA) ∧ Hid (∀ k, S k → w.heap.size + 3 ≤ k) ∧ Hid (∀ k, S k → k < w1.heap.size) := ⟨_, R1, Lib.hid fun k hk => by have := hk.1; (try simp at this); omega, Lib.hid fun k hk => hk.2⟩
  clear R1
  obtain ⟨a1, n1, q1, rfl⟩ := R1'.form
  have HR1 := Lib.hid R1'
  clear R1'
  have hz1 := hb1.size
  (try simp at hz1)
  (have hl0 : w.heap.size < w1.heap.size := by omega)
  (have hl1 : w.heap.size + 1 < w1.heap.size := by omega)
  (have hl2 : w.heap.size + 2 < w1.heap.size := by omega)
  (apply with_box hb1 (g := w.heap.size))
  (focus (repeat (first | (with_reducible exact HP0.out) | (with_reducible exact HP1.out) | (with_reducible exact HP2.out) | (with_reducible exact HP3.out) | (with_reducible exact HQ0.out) | (with_reducible exact HQ1.out) | (with_reducible exact HQ2.out) | (with_reducible exact HQ3.out) | (with_reducible apply Box.new) | (with_reducible apply Box.newAt; simp; done) | (with_reducible apply Box.set) | (with_reducible apply Box.skip; omega) | (with_reducible apply Box.alloc) | (with_reducible apply Box.drew) | (with_reducible apply Box.row) | (with_reducible apply Box.skipRow; omega))))
  intro hx0
  (try simp only [List.setIfInBounds_toArray, List.set_cons_zero, List.set_cons_succ] at hx0)
  have k0_0 := hx0.cell 0 (by simp)
  have k0_1 := hx0.cell 1 (by simp)
  have fr0 := fun o => hx0.frozen o
  (try simp only [List.getElem_toArray, List.getElem_cons_zero, List.getElem_cons_succ] at k0_0)
  (try simp only [List.getElem_toArray, List.getElem_cons_zero, List.getElem_cons_succ] at k0_1)
  (apply with_box hb1 (g := w.heap.size + 1))
  (focus (repeat (first | (with_reducible exact HP0.out) | (with_reducible exact HP1.out) | (with_reducible exact HP2.out) | (with_reducible exact HP3.out) | (with_reducible exact HQ0.out) | (with_reducible exact HQ1.out) | (with_reducible exact HQ2.out) | (with_reducible exact HQ3.out) | (with_reducible apply Box.new) | (with_reducible apply Box.newAt; simp; done) | (with_reducible apply Box.set) | (with_reducible apply Box.skip; omega) | (with_reducible apply Box.alloc) | (with_reducible apply Box.drew) | (with_reducible apply Box.row) | (with_reducible apply Box.skipRow; omega))))
  intro hx1
  (try simp only [List.setIfInBounds_toArray, List.set_cons_zero, List.set_cons_succ] at hx1)
  have k1_0 := hx1.cell 0 (by simp)
  have k1_1 := hx1.cell 1 (by simp)
  have fr1 := fun o => hx1.frozen o
  (try simp only [List.getElem_toArray, List.getElem_cons_zero, List.getElem_cons_succ] at k1_0)
  (try simp only [List.getElem_toArray, List.getElem_cons_zero, List.getElem_cons_succ] at k1_1)
  (apply with_box hb1 (g := w.heap.size + 2))
  (focus (repeat (first | (with_reducible exact HP0.out) | (with_reducible exact HP1.out) | (with_reducible exact HP2.out) | (with_reducible exact HP3.out) | (with_reducible exact HQ0.out) | (with_reducible exact HQ1.out) | (with_reducible exact HQ2.out) | (with_reducible exact HQ3.out) | (with_reducible apply Box.new) | (with_reducible apply Box.newAt; simp; done) | (with_reducible apply Box.set) | (with_reducible apply Box.skip; omega) | (with_reducible apply Box.alloc) | (with_reducible apply Box.drew) | (with_reducible apply Box.row) | (with_reducible apply Box.skipRow; omega))))
  intro hx2
  (try simp only [List.setIfInBounds_toArray, List.set_cons_zero, List.set_cons_succ] at hx2)
  have k2_0 := hx2.cell 0 (by simp)
  have k2_1 := hx2.cell 1 (by simp)
  have fr2 := fun o => hx2.frozen o
  (try simp only [List.getElem_toArray, List.getElem_cons_zero, List.getElem_cons_succ] at k2_0)
  (try simp only [List.getElem_toArray, List.getElem_cons_zero, List.getElem_cons_succ] at k2_1)
  skip
  have HP0 := Lib.hid hx0
  clear hx0
  have HP1 := Lib.hid hx1
  clear hx1
  have HP2 := Lib.hid hx2
  clear hx2
  have HB1 := Lib.hid hb1
  clear hb1
  go_wp2
  apply bodyPost_row (g := w.heap.size + 1) rfl rfl Try.underlying68 rfl
  focus (repeat (first | (with_reducible exact HP0.out) | (with_reducible exact HP1.out) | (with_reducible exact HP2.out) | (with_reducible exact HP3.out) | (with_reducible exact HQ0.out) | (with_reducible exact HQ1.out) | (with_reducible exact HQ2.out) | (with_reducible exact HQ3.out) | (with_reducible apply Box.new) | (with_reducible apply Box.newAt; simp; done) | (with_reducible apply Box.set) | (with_reducible apply Box.skip; omega) | (with_reducible apply Box.alloc) | (with_reducible apply Box.drew) | (with_reducible apply Box.row) | (with_reducible apply Box.skipRow; omega)))
  focus (kernel_rfl)
  focus (rfl)
  try simp only [List.setIfInBounds_toArray, List.set_cons_zero, List.set_cons_succ]
  refine ⟨_, rfl, ⟨S1, _, rfl, HR1.out.keep (fun b hb hl => by have hx := hlo1.out b hb; repeat (first | with_reducible rfl | (refine (heap_setCell_other _ _ _ _ ?_).trans ?_; (first | (show b ≠ _; omega) | (dsimp only; omega))))), fun k hk => ⟨by have := hlo1.out k hk; omega, by have := hhi1.out k hk; (try simp); omega⟩⟩, ?_⟩
  repeat (first | ((with_reducible refine Below.setCell ?_ ?_ _); rotate_left; first | omega | (dsimp only; omega) | (simp; done) | (simp; omega)) | ((with_reducible refine below_setRow ?_ ?_ _); rotate_left; first | omega | (dsimp only; omega) | (simp; done) | (simp; omega)) | with_reducible exact Below.refl _ _ | with_reducible exact below_new _ | with_reducible exact below_drew | with_reducible exact HB9.out | with_reducible exact HB8.out | with_reducible exact HB7.out | with_reducible exact HB6.out | with_reducible exact HB5.out | with_reducible exact HB4.out | with_reducible exact HB3.out | with_reducible exact HB2.out | with_reducible exact HB1.out | (with_reducible apply below_comp; rotate_left; first | with_reducible exact HB9.out | with_reducible exact HB8.out | with_reducible exact HB7.out | with_reducible exact HB6.out | with_reducible exact HB5.out | with_reducible exact HB4.out | with_reducible exact HB3.out | with_reducible exact HB2.out | with_reducible exact HB1.out | with_reducible assumption | with_reducible exact below_new _ | with_reducible exact below_drew))
set_option maxHeartbeats 4000000 in
set_option maxRecDepth 100000 in
theorem sz_spread (e : SpreadM) (v : Value) (left : Int) (w : World) (hw : e.Wf) (hl : 0 ≤ left ∧ left ≤ 4194304) (h : e.Arg w v) :
    Calls Try.prog 45 #[v, .int .i64 left] w fun r w' => r = .returned (.int .i64 (if left < (e.sz : Nat) then -1 else left - (e.sz : Nat))) ∧ Below w.heap.size w w' := by
  obtain ⟨x0, p0, rfl, E0⟩ := h
  have HE0 := Lib.hid E0
  clear E0
  obtain ⟨hw0, hw1, hw2⟩ := hw
  unfold maxLen at *
  obtain ⟨z1, hz1⟩ : ∃ z, z = intr_sz e.xTable := ⟨_, rfl⟩
  have HTOT : Hid (e.sz = (e.xKey.size) + z1) := Lib.hid (by unfold SpreadM.sz; rw [hz1])
  rw [HTOT.out]
  have HZ1 := Lib.hid hz1
  clear hz1
  by_cases hc0 : left < (((e.xKey.size) : Nat) : Int)
  · rw [if_pos (by omega)]
    have hq0 : left - ((e.xKey.size) : Int) < 0 := by omega
    go_enter Try.func45, Try.ntmps45
    go_wp2
    go_ret
    refine ⟨ret_int (by first | with_reducible rfl | omega), ?_⟩
    repeat (first | ((with_reducible refine Below.setCell ?_ ?_ _); rotate_left; first | omega | (dsimp only; omega) | (simp; done) | (simp; omega)) | ((with_reducible refine below_setRow ?_ ?_ _); rotate_left; first | omega | (dsimp only; omega) | (simp; done) | (simp; omega)) | with_reducible exact Below.refl _ _ | with_reducible exact below_new _ | with_reducible exact below_drew | with_reducible exact HB9.out | with_reducible exact HB8.out | with_reducible exact HB7.out | with_reducible exact HB6.out | with_reducible exact HB5.out | with_reducible exact HB4.out | with_reducible exact HB3.out | with_reducible exact HB2.out | with_reducible exact HB1.out | (with_reducible apply below_comp; rotate_left; first | with_reducible exact HB9.out | with_reducible exact HB8.out | with_reducible exact HB7.out | with_reducible exact HB6.out | with_reducible exact HB5.out | with_reducible exact HB4.out | with_reducible exact HB3.out | with_reducible exact HB2.out | with_reducible exact HB1.out | with_reducible assumption | with_reducible exact below_new _ | with_reducible exact below_drew))
  have hp0 : ¬ left - ((e.xKey.size) : Int) < 0 := by omega
  by_cases hc1 : left < (((e.xKey.size) + z1 : Nat) : Int)
  · rw [if_pos (by omega)]
    have hq1 : left - ((e.xKey.size) : Int) - (z1 : Int) < 0 := by omega
    go_enter Try.func45, Try.ntmps45
    go_wp2_with fail
    refine (sz_intrs x0 p0 e.xTable (left - (e.xKey.size)) _ (by omega) (by omega) (HE0.out.below (B := w.heap.size) (by repeat (first | ((with_reducible refine Below.setCell ?_ ?_ _); rotate_left; first | omega | (dsimp only; omega) | (simp; done) | (simp; omega)) | ((with_reducible refine below_setRow ?_ ?_ _); rotate_left; first | omega | (dsimp only; omega) | (simp; done) | (simp; omega)) | with_reducible exact Below.refl _ _ | with_reducible exact below_new _ | with_reducible exact below_drew | with_reducible exact HB9.out | with_reducible exact HB8.out | with_reducible exact HB7.out | with_reducible exact HB6.out | with_reducible exact HB5.out | with_reducible exact HB4.out | with_reducible exact HB3.out | with_reducible exact HB2.out | with_reducible exact HB1.out | (with_reducible apply below_comp; rotate_left; first | with_reducible exact HB9.out | with_reducible exact HB8.out | with_reducible exact HB7.out | with_reducible exact HB6.out | with_reducible exact HB5.out | with_reducible exact HB4.out | with_reducible exact HB3.out | with_reducible exact HB2.out | with_reducible exact HB1.out | with_reducible assumption | with_reducible exact below_new _ | with_reducible exact below_drew))) (Nat.le_refl _))).mono ?_
    rintro r w1 ⟨rfl, hb1⟩
    have hz1 := hb1.size
    (try simp at hz1)
    (have hl0 : w.heap.size < w1.heap.size := by omega)
    (apply with_box hb1 (g := w.heap.size))
    (focus (repeat (first | (with_reducible exact HP0.out) | (with_reducible exact HP1.out) | (with_reducible exact HP2.out) | (with_reducible exact HP3.out) | (with_reducible exact HQ0.out) | (with_reducible exact HQ1.out) | (with_reducible exact HQ2.out) | (with_reducible exact HQ3.out) | (with_reducible apply Box.new) | (with_reducible apply Box.newAt; simp; done) | (with_reducible apply Box.set) | (with_reducible apply Box.skip; omega) | (with_reducible apply Box.alloc) | (with_reducible apply Box.drew) | (with_reducible apply Box.row) | (with_reducible apply Box.skipRow; omega))))
    intro hx0
    (try simp only [List.setIfInBounds_toArray, List.set_cons_zero, List.set_cons_succ] at hx0)
    have k0_0 := hx0.cell 0 (by simp)
    have k0_1 := hx0.cell 1 (by simp)
    have fr0 := fun o => hx0.frozen o
    (try simp only [List.getElem_toArray, List.getElem_cons_zero, List.getElem_cons_succ] at k0_0)
    (try simp only [List.getElem_toArray, List.getElem_cons_zero, List.getElem_cons_succ] at k0_1)
    skip
    have HP0 := Lib.hid hx0
    clear hx0
    have HB1 := Lib.hid hb1
    clear hb1
    rw [← HZ1.out]
    rw [if_pos (by omega)]
    go_wp2
    go_ret
    refine ⟨ret_int (by first | with_reducible rfl | omega), ?_⟩
    repeat (first | ((with_reducible refine Below.setCell ?_ ?_ _); rotate_left; first | omega | (dsimp only; omega) | (simp; done) | (simp; omega)) | ((with_reducible refine below_setRow ?_ ?_ _); rotate_left; first | omega | (dsimp only; omega) | (simp; done) | (simp; omega)) | with_reducible exact Below.refl _ _ | with_reducible exact below_new _ | with_reducible exact below_drew | with_reducible exact HB9.out | with_reducible exact HB8.out | with_reducible exact HB7.out | with_reducible exact HB6.out | with_reducible exact HB5.out | with_reducible exact HB4.out | with_reducible exact HB3.out | with_reducible exact HB2.out | with_reducible exact HB1.out | (with_reducible apply below_comp; rotate_left; first | with_reducible exact HB9.out | with_reducible exact HB8.out | with_reducible exact HB7.out | with_reducible exact HB6.out | with_reducible exact HB5.out | with_reducible exact HB4.out | with_reducible exact HB3.out | with_reducible exact HB2.out | with_reducible exact HB1.out | with_reducible assumption | with_reducible exact below_new _ | with_reducible exact below_drew))
  have hp1 : ¬ left - ((e.xKey.size) : Int) - (z1 : Int) < 0 := by omega
  rw [if_neg (by omega)]
  go_enter Try.func45, Try.ntmps45
  go_wp2_with fail
  refine (sz_intrs x0 p0 e.xTable (left - (e.xKey.size)) _ (by omega) (by omega) (HE0.out.below (B := w.heap.size) (by repeat (first | ((with_reducible refine Below.setCell ?_ ?_ _); rotate_left; first | omega | (dsimp only; omega) | (simp; done) | (simp; omega)) | ((with_reducible refine below_setRow ?_ ?_ _); rotate_left; first | omega | (dsimp only; omega) | (simp; done) | (simp; omega)) | with_reducible exact Below.refl _ _ | with_reducible exact below_new _ | with_reducible exact below_drew | with_reducible exact HB9.out | with_reducible exact HB8.out | with_reducible exact HB7.out | with_reducible exact HB6.out | with_reducible exact HB5.out | with_reducible exact HB4.out | with_reducible exact HB3.out | with_reducible exact HB2.out | with_reducible exact HB1.out | (with_reducible apply below_comp; rotate_left; first | with_reducible exact HB9.out | with_reducible exact HB8.out | with_reducible exact HB7.out | with_reducible exact HB6.out | with_reducible exact HB5.out | with_reducible exact HB4.out | with_reducible exact HB3.out | with_reducible exact HB2.out | with_reducible exact HB1.out | with_reducible assumption | with_reducible exact below_new _ | with_reducible exact below_drew))) (Nat.le_refl _))).mono ?_
  rintro r w1 ⟨rfl, hb1⟩
  have hz1 := hb1.size
  (try simp at hz1)
  (have hl0 : w.heap.size < w1.heap.size := by omega)
  (apply with_box hb1 (g := w.heap.size))
  (focus (repeat (first | (with_reducible exact HP0.out) | (with_reducible exact HP1.out) | (with_reducible exact HP2.out) | (with_reducible exact HP3.out) | (with_reducible exact HQ0.out) | (with_reducible exact HQ1.out) | (with_reducible exact HQ2.out) | (with_reducible exact HQ3.out) | (with_reducible apply Box.new) | (with_reducible apply Box.newAt; simp; done) | (with_reducible apply Box.set) | (with_reducible apply Box.skip; omega) | (with_reducible apply Box.alloc) | (with_reducible apply Box.drew) | (with_reducible apply Box.row) | (with_reducible apply Box.skipRow; omega))))
  intro hx0
  (try simp only [List.setIfInBounds_toArray, List.set_cons_zero, List.set_cons_succ] at hx0)
  have k0_0 := hx0.cell 0 (by simp)
  have k0_1 := hx0.cell 1 (by simp)
  have fr0 := fun o => hx0.frozen o
  (try simp only [List.getElem_toArray, List.getElem_cons_zero, List.getElem_cons_succ] at k0_0)
  (try simp only [List.getElem_toArray, List.getElem_cons_zero, List.getElem_cons_succ] at k0_1)
  skip
  have HP0 := Lib.hid hx0
  clear hx0
  have HB1 := Lib.hid hb1
  clear hb1
  rw [← HZ1.out]
  rw [if_neg (by omega)]
  go_wp2
  go_ret
  refine ⟨ret_int (by first | with_reducible rfl | omega), ?_⟩
  repeat (first | ((with_reducible refine Below.setCell ?_ ?_ _); rotate_left; first | omega | (dsimp only; omega) | (simp; done) | (simp; omega)) | ((with_reducible refine below_setRow ?_ ?_ _); rotate_left; first | omega | (dsimp only; omega) | (simp; done) | (simp; omega)) | with_reducible exact Below.refl _ _ | with_reducible exact below_new _ | with_reducible exact below_drew | with_reducible exact HB9.out | with_reducible exact HB8.out | with_reducible exact HB7.out | with_reducible exact HB6.out | with_reducible exact HB5.out | with_reducible exact HB4.out | with_reducible exact HB3.out | with_reducible exact HB2.out | with_reducible exact HB1.out | (with_reducible apply below_comp; rotate_left; first | with_reducible exact HB9.out | with_reducible exact HB8.out | with_reducible exact HB7.out | with_reducible exact HB6.out | with_reducible exact HB5.out | with_reducible exact HB4.out | with_reducible exact HB3.out | with_reducible exact HB2.out | with_reducible exact HB1.out | with_reducible assumption | with_reducible exact below_new _ | with_reducible exact below_drew))
end Go.Proofs.Ytogiocinhjbdkaa

/- A struct (Flow) that came in, opened to its cells. -/
namespace Go.Proofs.Ytogiocinhjbdkaa
open Go.Joins Go.ChangeShapes Go.WideShapes Go.RowKit Go.Deep
set_option linter.unusedVariables false
set_option linter.unusedSimpArgs false
namespace OpFlow
section
variable {H : Type} {enc : TypeId × Value → H} {w : World} {base : Nat} {spare : Nat → Bool} {held : Bool}

set_option maxRecDepth 100000 in
theorem el {n0 : Nat} {cs : List Value} {x : DataW H × List MemPlace} (hf : DataW.trod enc Try.prog w base spare held n0 153 cs = some x) : ∃ e : FlowM, cs = e.arr.toList ∧ e.Wf := by
  obtain ⟨_, _, _, _, hlen, _, _⟩ := DataW.trod_struct Try.underlying153 hf
  rw [show Try.prog.cellsOf 153 = 5 by kernel_rfl] at hlen
  match cs, hlen with
  | [c0, c1, c2, c3, c4], _ =>
    obtain ⟨yq_0, nq_0, gq_0⟩ := open_parts Try.underlying153 hf 0 _ rfl
    have hq_0 : DataW.trod enc Try.prog w base spare held nq_0 3 [c0] = some yq_0 := by simpa [show Try.prog.cellsOf 3 = 1 by kernel_rfl] using gq_0
    obtain ⟨aq_0, rfl, wq_0⟩ := part_int Try.underlying3 hq_0
    obtain ⟨yq_1, nq_1, gq_1⟩ := open_parts Try.underlying153 hf 1 _ rfl
    have hq_1 : DataW.trod enc Try.prog w base spare held nq_1 3 [c1] = some yq_1 := by simpa [show Try.prog.cellsOf 3 = 1 by kernel_rfl] using gq_1
    obtain ⟨aq_1, rfl, wq_1⟩ := part_int Try.underlying3 hq_1
    obtain ⟨yq_2, nq_2, gq_2⟩ := open_parts Try.underlying153 hf 2 _ rfl
    have hq_2 : DataW.trod enc Try.prog w base spare held nq_2 3 [c2] = some yq_2 := by simpa [show Try.prog.cellsOf 3 = 1 by kernel_rfl] using gq_2
    obtain ⟨aq_2, rfl, wq_2⟩ := part_int Try.underlying3 hq_2
    obtain ⟨yq_3, nq_3, gq_3⟩ := open_parts Try.underlying153 hf 3 _ rfl
    have hq_3 : DataW.trod enc Try.prog w base spare held nq_3 3 [c3] = some yq_3 := by simpa [show Try.prog.cellsOf 3 = 1 by kernel_rfl] using gq_3
    obtain ⟨aq_3, rfl, wq_3⟩ := part_int Try.underlying3 hq_3
    obtain ⟨yq_4, nq_4, gq_4⟩ := open_parts Try.underlying153 hf 4 _ rfl
    have hq_4 : DataW.trod enc Try.prog w base spare held nq_4 3 [c4] = some yq_4 := by simpa [show Try.prog.cellsOf 3 = 1 by kernel_rfl] using gq_4
    obtain ⟨aq_4, rfl, wq_4⟩ := part_int Try.underlying3 hq_4
    exact ⟨⟨aq_0, aq_1, aq_2, aq_3, aq_4⟩, rfl, ⟨i64_bd wq_0, i64_bd wq_1, i64_bd wq_2, i64_bd wq_3, i64_bd wq_4⟩⟩
end
end OpFlow
end Go.Proofs.Ytogiocinhjbdkaa

/- The laws' own help for Flow. -/
namespace Go.Proofs.Ytogiocinhjbdkaa
open Go.RowKit
set_option linter.unusedSimpArgs false
set_option linter.unusedVariables false
set_option maxHeartbeats 2000000 in
set_option maxRecDepth 100000 in
theorem to_flow (e : FlowM) (w : World) :
    Calls Try.prog 117 #[e.val] w fun r w' => r = .returned e.val ∧ Below w.heap.size w w' := by
  obtain ⟨kind, sip, dip, sport, dport⟩ := e
  unfold FlowM.val
  dsimp only
  go_enter Try.func117, Try.ntmps117
  go_wp2
  refine bodyPost_ret (v := .agg #[.int .i64 kind, .int .i64 sip, .int .i64 dip, .int .i64 sport, .int .i64 dport]) (by simp [results, Try.results117, go_sem]) rfl ⟨rfl, ?_⟩
  exact below_comp (below_comp (below_new _) (below_new _)) (below_new _)
end Go.Proofs.Ytogiocinhjbdkaa

/- Rows of Flow that came in: to, sz, and how they are opened. -/
namespace Go.Proofs.Ytogiocinhjbdkaa
open Go.RowKit
set_option linter.unusedSimpArgs false
set_option linter.unusedVariables false

theorem Try.infoFlow : (Try.prog.info? 151).map (fun i => (i.zero, i.size, i.bytes)) = some (some (.agg #[.int .i64 0, .int .i64 0, .int .i64 0, .int .i64 0, .int .i64 0]), 5, 40) := by kernel_rfl
theorem elemFlow : Elem Try.prog 88 151 (.agg #[.int .i64 0, .int .i64 0, .int .i64 0, .int .i64 0, .int .i64 0]) 5 40 := ⟨Try.underlying88, info_parts Try.infoFlow, by decide, by decide⟩
def OwnFlowS (w : World) (l : List FlowM) (e : Ending) (w' : World) : Prop := ∃ v, e = .returned v ∧ Row w' (Rng w.heap.size w'.heap.size) 151 5 v (l.map FlowM.arr) ∧ Below w.heap.size w w'

set_option maxHeartbeats 4000000 in
set_option maxRecDepth 100000 in
theorem to_flows (a : Option Addr) (cap : Nat) (l : List FlowM) (w : World) (hn : l.length ≤ 2097152) (h : EltsL w a 5 (l.map FlowM.arr)) :
    Calls Try.prog 63 #[.slice a l.length cap] w (OwnFlowS w l) := by
  have H := Lib.hid h
  clear h
  obtain ⟨n, hl⟩ : ∃ n, n = l.length := ⟨_, rfl⟩
  rw [← hl] at hn ⊢
  have HL := Lib.hid hl
  clear hl
  obtain ⟨i0, hi, hz0, hz1, hz2⟩ := info_parts Try.infoFlow
  go_enter Try.func63, Try.ntmps63
  go_wp2_with (at_make; refine wpList_make_full _ rfl _ _ 88 rfl w.heap.size 151 i0 _ 5 Try.underlying88 hi hz0 hz1 .i64 .i64 _ _ n rfl rfl rfl rfl (by rw [hz2]; omega) (by unfold maxLen; omega) (Nat.le_refl _) ?_; intro w0 hown0 hgrow0)
  have HB0 : Hid (Below w.heap.size w w0) := Lib.hid ((Below.refl _ _).grown hgrow0 (Nat.le_refl _) (by intro k hk; cases hk))
  have HU0 : Hid (Upto w0 w.heap.size 151 5 n 0 0 (fun i => ((l.map FlowM.arr).getD i #[]))) := Lib.hid (by
    obtain ⟨_, ⟨h, _⟩ | ⟨g, cap, cur, hv, hb, hg, hc, hm, hs, ht⟩⟩ := hown0
    · cases h
    · cases hv
      exact Upto.start hg (by omega))
  clear hown0 hgrow0
  go_loopw [4] (fun i wr => ∃ k : Nat, k ≤ n ∧ i = .int .i64 k ∧ Hid (Upto wr w.heap.size 151 5 n k 0 (fun i => ((l.map FlowM.arr).getD i #[]))) ∧ Hid (Below w.heap.size w wr)) (fun i _ => n + 1 - (intOf i).toNat)
  case atStart => exact ⟨0, by omega, rfl, HU0, HB0⟩
  case round =>
    clear HU0 HB0
    obtain ⟨k, hk, rfl, HU, HB⟩ := hrel
    by_cases hlt : k < n
    · have hk' : k < l.length := by have := HL.out; omega
      obtain ⟨x, rfl, hx1, hx2⟩ := (H.out.later HB.out) k l[k].arr (by simp [hk'])
      have HF : Hid ((fun i => ((l.map FlowM.arr).getD i #[])) k = l[k].arr) := Lib.hid (by simp [hk'])
      generalize l[k] = e at hx2 HF
      have HE := Lib.hid fun W => to_flow e W
      obtain ⟨y0, y1, y2, y3, y4⟩ := e
      unfold FlowM.arr FlowM.val at *
      have HC : Hid (∀ j v, ([.int .i64 y0, .int .i64 y1, .int .i64 y2, .int .i64 y3, .int .i64 y4] : List Value)[j]? = some v → wr.cell? ((x.add (k * 5)).add j) = some v) := Lib.hid fun j v hj => by
        have hjl : j < 5 := by have := (List.getElem?_eq_some_iff.1 hj).1; simpa using this
        rw [hx2 j hjl]; simpa using hj
      clear hx2
      have e1 : (k : Int) < (n : Int) := by omega
      have e0 : (0 : Int) ≤ (k : Int) := by omega
      go_wp2_with (first
        | (refine wpList_load_at rfl 153 (.tmp 18) rfl (x.add (k * 5)) (by go_simp) [.int .i64 y0, .int .i64 y1, .int .i64 y2, .int .i64 y3, .int .i64 y4] _ HC.out Try.underlying153 rfl (by kernel_rfl) ?_)
        | (go_at_call 117; refine (HE.out _).mono ?_; rintro e w1 ⟨rfl, hb1⟩; have HB1 := Lib.hid (below_comp HB.out hb1); have HU1 := Lib.hid (HU.out.later hb1); clear hb1 HU)
        | (refine wpList_store_elem HU1.out HB1.out (Nat.le_refl _) hlt #[.int .i64 y0, .int .i64 y1, .int .i64 y2, .int .i64 y3, .int .i64 y4] HF.out rfl (by simp [Value.oneCell']) rfl 151 (.tmp 21) (.tmp 20) rfl (by kernel_rfl) (by go_simp) (by go_simp) ?_; intro w2 hu2 hb2 hz2; have HU2 := Lib.hid hu2; have HB2 := Lib.hid hb2; clear hu2 hb2))
      go_roundw
      case rel => exact ⟨k + 1, by omega, by go_num, HU2, HB2⟩
      case measure => simp [intOf]; omega
    · obtain rfl : k = n := by omega
      have HR : Hid (Row wr (Rng w.heap.size wr.heap.size) 151 5 (.slice (some ⟨w.heap.size, 0, none⟩) k k) (l.map FlowM.arr)) := Lib.hid (by
        have hl2 : (l.map FlowM.arr).length = k := by rw [List.length_map]; exact HL.out.symm
        have h2 : Upto wr w.heap.size 151 5 (l.map FlowM.arr).length (l.map FlowM.arr).length 0 (fun i => ((l.map FlowM.arr).getD i #[])) := by rw [hl2]; exact HU.out
        have h3 := h2.to_row (S := Rng w.heap.size wr.heap.size) (c := k) (fun i x hx => by simp only [List.getD_eq_getElem?_getD]; rw [hx]; rfl) ⟨Nat.le_refl _, HU.out.lt⟩ (by omega) (by unfold maxLen; omega)
        rw [hl2] at h3
        exact h3)
      go_wp2
      exact bodyPost_ret (v := .slice (some ⟨w.heap.size, 0, none⟩) k k) (by simp [results, Try.results63, go_sem]) rfl ⟨_, rfl, HR.out, HB.out⟩

def FlowM.szL (l : List FlowM) : Nat := l.length
theorem FlowM.szL_ge (l : List FlowM) : l.length ≤ FlowM.szL l := Nat.le_refl _
set_option maxHeartbeats 4000000 in
set_option maxRecDepth 100000 in
theorem sz_flows (a : Option Addr) (cap : Nat) (l : List FlowM) (left : Int) (w : World) (hl : l.length ≤ 9223372036854775807) (h : 0 ≤ left ∧ left ≤ 4194304) (_ : EltsL w a 5 (l.map FlowM.arr)) :
    Calls Try.prog 61 #[.slice a l.length cap, .int .i64 left] w fun e w' => e = .returned (.int .i64 (if left < (FlowM.szL l : Nat) then -1 else left - (FlowM.szL l : Nat))) ∧ Below w.heap.size w w' := by
  unfold FlowM.szL
  generalize l.length = len at hl ⊢
  by_cases hlt : left < len
  · rw [if_pos hlt]
    have h1 : left - len < 0 := by omega
    obtain ⟨h0, h2⟩ := h
    go_enter Try.func61, Try.ntmps61
    go_wp2
    go_ret
    exact ⟨rfl, Below.refl _ _⟩
  · rw [if_neg hlt]
    have h1 : ¬ left - len < 0 := by omega
    obtain ⟨h0, h2⟩ := h
    go_enter Try.func61, Try.ntmps61
    go_wp2
    go_ret
    exact ⟨rfl, Below.refl _ _⟩

namespace OpFlowS
section
variable {H : Type} {enc : TypeId × Value → H} {w : World} {base : Nat} {spare : Nat → Bool} {held : Bool}
theorem row {fuel : Nat} {c : Value} {x : DataW H × List MemPlace} (h : DataW.trod enc Try.prog w base spare held fuel 85 [c] = some x) :
    ∃ (a : Option Addr) (cap : Nat) (l : List FlowM), c = .slice a l.length cap ∧ EltsL w a 5 (l.map FlowM.arr) ∧ l.length ≤ maxLen ∧ ∀ z ∈ l, z.Wf :=
  open_row Try.underlying85 (by kernel_rfl) (by omega) (fun _ _ _ h => OpFlow.el h) h
end
end OpFlowS
end Go.Proofs.Ytogiocinhjbdkaa

/- The laws' eqFlow of equal values. -/
namespace Go.Proofs.Ytogiocinhjbdkaa
open Go.RowKit
set_option linter.unusedSimpArgs false
set_option linter.unusedVariables false
set_option maxHeartbeats 2000000 in
set_option maxRecDepth 100000 in
theorem eq_flow (e : FlowM) (w : World) :
    Calls Try.prog 121 #[e.val, e.val] w fun r w' => r = .returned (.bool true) ∧ Below w.heap.size w w' := by
  obtain ⟨kind, sip, dip, sport, dport⟩ := e
  unfold FlowM.val
  dsimp only
  go_enter Try.func121, Try.ntmps121
  go_wp2
  go_ret
  exact ⟨rfl, below_comp (below_new _) (below_new _)⟩
end Go.Proofs.Ytogiocinhjbdkaa

/- eqFlowS of equal rows. -/
namespace Go.Proofs.Ytogiocinhjbdkaa
open Go.RowKit
set_option linter.unusedSimpArgs false
set_option linter.unusedVariables false

set_option maxHeartbeats 4000000 in
set_option maxRecDepth 100000 in
theorem eq_flow_view (w : World) (a1 a2 : Option Addr) (g1 g2 c1 c2 : Nat) (l : List FlowM) (hn : l.length ≤ 4194304) (h1 : View w a1 g1 5 (l.map FlowM.arr)) (h2 : View w a2 g2 5 (l.map FlowM.arr)) :
    Calls Try.prog 65 #[.slice a1 l.length c1, .slice a2 l.length c2] w fun e w' => e = .returned (.bool true) ∧ Below w.heap.size w w' := by
  obtain ⟨n, hl⟩ : ∃ n, n = l.length := ⟨_, rfl⟩
  rw [← hl] at hn ⊢
  have HL := Lib.hid hl
  have H1 := Lib.hid h1
  have H2 := Lib.hid h2
  clear h1 h2 hl
  go_enter Try.func65, Try.ntmps65
  go_wp2
  go_loopw [5] (fun i wr => ∃ k : Nat, k ≤ n ∧ i = .int .i64 k ∧ Hid (Below w.heap.size w wr)) (fun i _ => n + 1 - (intOf i).toNat)
  case atStart => exact ⟨0, by omega, rfl, Lib.hid (Below.refl _ _)⟩
  case round =>
    obtain ⟨k, hk, rfl, HB⟩ := hrel
    by_cases hlt : k < n
    · have hk' : k < l.length := by have := HL.out; omega
      have hne : l.map FlowM.arr ≠ [] := fun e => by simp at e; rw [e] at hk'; simp at hk'
      have b1 := H1.out.later HB.out
      have b2 := H2.out.later HB.out
      obtain ⟨ea1, eg1⟩ := b1.1 hne
      obtain ⟨ea2, eg2⟩ := b2.1 hne
      subst ea1
      subst ea2
      have x1 := b1.2 k l[k].arr (by simp [hk'])
      have x2 := b2.2 k l[k].arr (by simp [hk'])
      clear b1 b2 hne
      generalize l[k] = e at x1 x2
      have HE := Lib.hid fun W => eq_flow e W
      obtain ⟨y0, y1, y2, y3, y4⟩ := e
      unfold FlowM.arr FlowM.val at *
      have d1_0 := x1 0 (by omega)
      have d1_1 := x1 1 (by omega)
      have d1_2 := x1 2 (by omega)
      have d1_3 := x1 3 (by omega)
      have d1_4 := x1 4 (by omega)
      have d2_0 := x2 0 (by omega)
      have d2_1 := x2 1 (by omega)
      have d2_2 := x2 2 (by omega)
      have d2_3 := x2 3 (by omega)
      have d2_4 := x2 4 (by omega)
      clear x1 x2
      simp at d1_0 d2_0 d1_1 d2_1 d1_2 d2_2 d1_3 d2_3 d1_4 d2_4
      have e1 : (k : Int) < (n : Int) := by omega
      have e0 : (0 : Int) ≤ (k : Int) := by omega
      go_wp2
      go_still_tail 8, (by kernel_rfl)
      change wpList _ _ _ _ _ wr.drew
      go_wp2_with (go_at_call 121; refine (HE.out _).mono ?_; rintro e w1 ⟨rfl, hb1⟩)
      go_roundw
      case rel => exact ⟨k + 1, by omega, by go_num, Lib.hid (below_comp HB.out (below_comp below_drew hb1))⟩
      case measure => simp [intOf]; omega
    · obtain rfl : k = n := by omega
      go_wp2
      go_ret
      exact ⟨rfl, HB.out⟩
theorem eq_flows (w : World) (S1 S2 : Nat → Prop) (T1 T2 : TypeId) (v1 v2 : Value) (l : List FlowM) (hn : l.length ≤ 4194304) (h1 : Row w S1 T1 5 v1 (l.map FlowM.arr)) (h2 : Row w S2 T2 5 v2 (l.map FlowM.arr)) :
    Calls Try.prog 65 #[v1, v2] w fun e w' => e = .returned (.bool true) ∧ Below w.heap.size w w' := by
  obtain ⟨a1, g1, c1, rfl, x1, _⟩ := h1.open
  obtain ⟨a2, g2, c2, rfl, x2, _⟩ := h2.open
  rw [List.length_map]
  exact eq_flow_view w a1 a2 g1 g2 c1 c2 l hn x1 x2
end Go.Proofs.Ytogiocinhjbdkaa

/- markFlowS, heldFlowS. -/
namespace Go.Proofs.Ytogiocinhjbdkaa
open Go.RowKit
set_option linter.unusedSimpArgs false
set_option linter.unusedVariables false

set_option maxHeartbeats 4000000 in
set_option maxRecDepth 100000 in
theorem mark_flows (w : World) (S : Nat → Prop) (q : Nat) (v : Value) (l : List FlowM) (hn : l.length ≤ 2097152) (hq1 : 1 ≤ q) (hq : q ≤ 500000000) (h : Row w S 151 5 v (l.map FlowM.arr)) :
    Calls Try.prog 66 #[v, .int .i64 q] w fun e w' => e = .returned (.int .i64 ((q + l.length * 5 : Nat) : Int)) ∧ Row w' S 151 5 v ((FlowM.marks q l.length).map FlowM.arr) ∧ Touch w w' S := by
  by_cases hne : l.map FlowM.arr = []
  · obtain ⟨a, g, c, rfl, _, _⟩ := h.open
    have h0 : l = [] := by simpa using hne
    subst h0
    clear h
    go_enter Try.func66, Try.ntmps66
    go_wp2
    go_loop [1, 5] (fun x i => x = .int .i64 q ∧ i = .int .i64 0) (fun _ _ => 0)
    case atStart => exact ⟨rfl, rfl⟩
    case round =>
      obtain ⟨rfl, rfl⟩ := hrel
      go_wp2
      go_ret
      exact ⟨by simp, Row.nil _ _ _ _ _ _, Touch.refl _ _⟩
  obtain ⟨g, c, rfl, hSg, hc, hm, hU⟩ := h.upto hne (fun i => (FlowM.mkd (q + i * 5)).arr)
  rw [List.length_map] at hU hc ⊢
  generalize l.length = n at hU hc hn ⊢
  have HU0 := Lib.hid hU
  clear hU h hne
  go_enter Try.func66, Try.ntmps66
  go_wp2
  go_loopw [1, 5] (fun x i wr => ∃ k : Nat, k ≤ n ∧ i = .int .i64 k ∧ x = .int .i64 ((q + k * 5 : Nat) : Int) ∧ Hid (Upto wr g 151 5 n k 0 (fun i => (FlowM.mkd (q + i * 5)).arr)) ∧ Hid (Touch w wr S)) (fun _ i _ => n + 1 - (intOf i).toNat)
  case atStart => exact ⟨0, by omega, rfl, by simp, HU0, Lib.hid (Touch.refl _ _)⟩
  case round =>
    clear HU0
    obtain ⟨k, hk, rfl, rfl, HU, HT⟩ := hrel
    by_cases hlt : k < n
    · obtain ⟨Q, hQ⟩ : ∃ Q, Q = q + k * 5 := ⟨_, rfl⟩
      have hq2 : Q ≤ 1000000000 - 100 := by omega
      have V0 : ((fun i => (FlowM.mkd (q + i * 5)).arr) k)[0]? = some (.int .i64 ((Q : Int))) := by
        show (FlowM.mkd (q + k * 5)).arr[0]? = _
        rw [← hQ]
        rfl
      have V1 : ((fun i => (FlowM.mkd (q + i * 5)).arr) k)[1]? = some (.int .i64 ((Q : Int) + 1)) := by
        show (FlowM.mkd (q + k * 5)).arr[1]? = _
        rw [← hQ]
        rfl
      have V2 : ((fun i => (FlowM.mkd (q + i * 5)).arr) k)[2]? = some (.int .i64 ((Q : Int) + 2)) := by
        show (FlowM.mkd (q + k * 5)).arr[2]? = _
        rw [← hQ]
        rfl
      have V3 : ((fun i => (FlowM.mkd (q + i * 5)).arr) k)[3]? = some (.int .i64 ((Q : Int) + 3)) := by
        show (FlowM.mkd (q + k * 5)).arr[3]? = _
        rw [← hQ]
        rfl
      have V4 : ((fun i => (FlowM.mkd (q + i * 5)).arr) k)[4]? = some (.int .i64 ((Q : Int) + 4)) := by
        show (FlowM.mkd (q + k * 5)).arr[4]? = _
        rw [← hQ]
        rfl
      have HV0 := Lib.hid V0
      have HV1 := Lib.hid V1
      have HV2 := Lib.hid V2
      have HV3 := Lib.hid V3
      have HV4 := Lib.hid V4
      rw [← hQ]
      have HQ := Lib.hid hQ
      clear hQ V0 V1 V2 V3 V4

      have e1 : (k : Int) < (n : Int) := by omega
      have e0 : (0 : Int) ≤ (k : Int) := by omega
      have HU0 := Lib.hid HU.out
      have HT0 := Lib.hid HT.out
      clear HU HT
      go_wp2_with (first
        | (refine wpList_store_upto HU0.out HT0.out hSg hlt (by omega) (.int .i64 ((Q : Int))) HV0.out rfl rfl _ _ _ rfl (by kernel_rfl) (by go_simp) (by go_simp; first | done | omega) ?_; intro w1 hu1 ht1; have HU1 := Lib.hid hu1; have HT1 := Lib.hid ht1; clear hu1 ht1 HU0 HT0)
        | (refine wpList_store_upto HU1.out HT1.out hSg hlt (by omega) (.int .i64 ((Q : Int) + 1)) HV1.out rfl rfl _ _ _ rfl (by kernel_rfl) (by go_simp) (by go_simp; first | done | omega) ?_; intro w2 hu2 ht2; have HU2 := Lib.hid hu2; have HT2 := Lib.hid ht2; clear hu2 ht2 HU1 HT1)
        | (refine wpList_store_upto HU2.out HT2.out hSg hlt (by omega) (.int .i64 ((Q : Int) + 2)) HV2.out rfl rfl _ _ _ rfl (by kernel_rfl) (by go_simp) (by go_simp; first | done | omega) ?_; intro w3 hu3 ht3; have HU3 := Lib.hid hu3; have HT3 := Lib.hid ht3; clear hu3 ht3 HU2 HT2)
        | (refine wpList_store_upto HU3.out HT3.out hSg hlt (by omega) (.int .i64 ((Q : Int) + 3)) HV3.out rfl rfl _ _ _ rfl (by kernel_rfl) (by go_simp) (by go_simp; first | done | omega) ?_; intro w4 hu4 ht4; have HU4 := Lib.hid hu4; have HT4 := Lib.hid ht4; clear hu4 ht4 HU3 HT3)
        | (refine wpList_store_upto HU4.out HT4.out hSg hlt (by omega) (.int .i64 ((Q : Int) + 4)) HV4.out rfl rfl _ _ _ rfl (by kernel_rfl) (by go_simp) (by go_simp; first | done | omega) ?_; intro w5 hu5 ht5; have HU5 := Lib.hid hu5; have HT5 := Lib.hid ht5; clear hu5 ht5 HU4 HT4))
      go_roundw
      case rel => exact ⟨k + 1, by omega, by go_num, by rw [show q + (k + 1) * 5 = Q + 5 by have := HQ.out; omega]; go_num, Lib.hid (Upto.next HU5.out), HT5⟩
      case measure => simp [intOf]; omega
    · obtain rfl : k = n := by omega
      have HR : Hid (Row wr S 151 5 (.slice (some ⟨g, 0, none⟩) k c) ((FlowM.marks q k).map FlowM.arr)) := Lib.hid (by
        have hl : ((FlowM.marks q k).map FlowM.arr).length = k := by simp [FlowM.marks]
        have h := HU.out
        have h2 : Upto wr g 151 5 ((FlowM.marks q k).map FlowM.arr).length ((FlowM.marks q k).map FlowM.arr).length 0 (fun i => (FlowM.mkd (q + i * 5)).arr) := by rw [hl]; exact h
        have h3 := h2.to_row (S := S) (c := c) (fun i x hx => by
          rw [List.getElem?_map] at hx
          have hi : i < k := by
            have := (List.getElem?_eq_some_iff.1 (by simpa using hx : ((FlowM.marks q k).map FlowM.arr)[i]? = some x)).1
            omega
          rw [FlowM.marks_at q k i hi] at hx
          simpa using hx) hSg (by omega) hm
        rw [hl] at h3
        exact h3)
      go_wp2
      go_ret
      exact ⟨rfl, HR.out, HT.out⟩
end Go.Proofs.Ytogiocinhjbdkaa
