/- Structs with structs and strings inside: their fields and their value. -/
import Derived.Test.YtfbnjemmmgobkaaFlatMath
import Derived.Test.YtfbnjemmmgobkaaSupMath
import Derived.Test.YtfbnjemmmgobkaaStepMath
namespace Go.Proofs.Ytfbnjemmmgobkaa
structure StreamM where
  xFlow : FlowM
  xNext : Int
  xData : ByteArray
  xDone : Bool
def StreamM.val (e : StreamM) : Value := .agg #[.int .i64 e.xFlow.kind, .int .i64 e.xFlow.sip, .int .i64 e.xFlow.dip, .int .i64 e.xFlow.sport, .int .i64 e.xFlow.dport, .int .i64 e.xNext, .string e.xData, .bool e.xDone]
def StreamM.Wf (e : StreamM) : Prop := I64 e.xFlow.kind ∧ I64 e.xFlow.sip ∧ I64 e.xFlow.dip ∧ I64 e.xFlow.sport ∧ I64 e.xFlow.dport ∧ I64 e.xNext ∧ e.xData.size ≤ maxLen
structure SlotM where
  xState : Int
  xFlow : FlowM
  xQueue : Int
def SlotM.val (e : SlotM) : Value := .agg #[.int .i64 e.xState, .int .i64 e.xFlow.kind, .int .i64 e.xFlow.sip, .int .i64 e.xFlow.dip, .int .i64 e.xFlow.sport, .int .i64 e.xFlow.dport, .int .i64 e.xQueue]
def SlotM.Wf (e : SlotM) : Prop := I64 e.xState ∧ I64 e.xFlow.kind ∧ I64 e.xFlow.sip ∧ I64 e.xFlow.dip ∧ I64 e.xFlow.sport ∧ I64 e.xFlow.dport ∧ I64 e.xQueue
structure RxQueueM where
  xRing : RingM
  xDevice : CompletionQueueM
  xDriver : CompletionQueueM
  xHeld : SupM
  xHolding : Bool
  xDropped : Int
def RxQueueM.val (e : RxQueueM) : Value := .agg #[.int .i64 e.xRing.xBase, .int .i64 e.xRing.xSize, .int .i64 e.xRing.xHead, .int .i64 e.xRing.xTail, .int .i64 e.xDevice.xBase, .int .i64 e.xDevice.xSize, .int .i64 e.xDevice.xCount, .int .i64 e.xDriver.xBase, .int .i64 e.xDriver.xSize, .int .i64 e.xDriver.xCount, .int .i64 e.xHeld.pkt.dmac, .int .i64 e.xHeld.pkt.smac, .int .i64 e.xHeld.pkt.vlan, .int .i64 e.xHeld.pkt.tos, .int .i64 e.xHeld.pkt.id, .int .i64 e.xHeld.pkt.ttl, .int .i64 e.xHeld.pkt.sip, .int .i64 e.xHeld.pkt.dip, .int .i64 e.xHeld.pkt.seg.kind, .int .i64 e.xHeld.pkt.seg.sport, .int .i64 e.xHeld.pkt.seg.dport, .int .i64 e.xHeld.pkt.seg.seq, .int .i64 e.xHeld.pkt.seg.ack, .int .i64 e.xHeld.pkt.seg.flags, .int .i64 e.xHeld.pkt.seg.window, .string e.xHeld.pkt.seg.body, .int .i64 e.xHeld.size, .int .i64 e.xHeld.count, .bool e.xHolding, .int .i64 e.xDropped]
def RxQueueM.Wf (e : RxQueueM) : Prop := I64 e.xRing.xBase ∧ I64 e.xRing.xSize ∧ I64 e.xRing.xHead ∧ I64 e.xRing.xTail ∧ I64 e.xDevice.xBase ∧ I64 e.xDevice.xSize ∧ I64 e.xDevice.xCount ∧ I64 e.xDriver.xBase ∧ I64 e.xDriver.xSize ∧ I64 e.xDriver.xCount ∧ I64 e.xHeld.pkt.dmac ∧ I64 e.xHeld.pkt.smac ∧ I64 e.xHeld.pkt.vlan ∧ I64 e.xHeld.pkt.tos ∧ I64 e.xHeld.pkt.id ∧ I64 e.xHeld.pkt.ttl ∧ I64 e.xHeld.pkt.sip ∧ I64 e.xHeld.pkt.dip ∧ I64 e.xHeld.pkt.seg.kind ∧ I64 e.xHeld.pkt.seg.sport ∧ I64 e.xHeld.pkt.seg.dport ∧ I64 e.xHeld.pkt.seg.seq ∧ I64 e.xHeld.pkt.seg.ack ∧ I64 e.xHeld.pkt.seg.flags ∧ I64 e.xHeld.pkt.seg.window ∧ e.xHeld.pkt.seg.body.size ≤ maxLen ∧ I64 e.xHeld.size ∧ I64 e.xHeld.count ∧ I64 e.xDropped
structure VirtualFunctionM where
  xDomain : Int
  xPort : Int
  xBucket : BucketM
  xEnabled : Bool
  xSent : Int
  xRefused : Int
def VirtualFunctionM.val (e : VirtualFunctionM) : Value := .agg #[.int .i64 e.xDomain, .int .i64 e.xPort, .int .i64 e.xBucket.xRate, .int .i64 e.xBucket.xBurst, .int .i64 e.xBucket.xTokens, .bool e.xEnabled, .int .i64 e.xSent, .int .i64 e.xRefused]
def VirtualFunctionM.Wf (e : VirtualFunctionM) : Prop := I64 e.xDomain ∧ I64 e.xPort ∧ I64 e.xBucket.xRate ∧ I64 e.xBucket.xBurst ∧ I64 e.xBucket.xTokens ∧ I64 e.xSent ∧ I64 e.xRefused
structure ActM where
  xKind : Int
  xPacket : PktM
  xSize : Int
  xCut : Int
  xFrame : ByteArray
  xBudget : Int
def ActM.val (e : ActM) : Value := .agg #[.int .i64 e.xKind, .int .i64 e.xPacket.dmac, .int .i64 e.xPacket.smac, .int .i64 e.xPacket.vlan, .int .i64 e.xPacket.tos, .int .i64 e.xPacket.id, .int .i64 e.xPacket.ttl, .int .i64 e.xPacket.sip, .int .i64 e.xPacket.dip, .int .i64 e.xPacket.seg.kind, .int .i64 e.xPacket.seg.sport, .int .i64 e.xPacket.seg.dport, .int .i64 e.xPacket.seg.seq, .int .i64 e.xPacket.seg.ack, .int .i64 e.xPacket.seg.flags, .int .i64 e.xPacket.seg.window, .string e.xPacket.seg.body, .int .i64 e.xSize, .int .i64 e.xCut, .string e.xFrame, .int .i64 e.xBudget]
def ActM.Wf (e : ActM) : Prop := I64 e.xKind ∧ I64 e.xPacket.dmac ∧ I64 e.xPacket.smac ∧ I64 e.xPacket.vlan ∧ I64 e.xPacket.tos ∧ I64 e.xPacket.id ∧ I64 e.xPacket.ttl ∧ I64 e.xPacket.sip ∧ I64 e.xPacket.dip ∧ I64 e.xPacket.seg.kind ∧ I64 e.xPacket.seg.sport ∧ I64 e.xPacket.seg.dport ∧ I64 e.xPacket.seg.seq ∧ I64 e.xPacket.seg.ack ∧ I64 e.xPacket.seg.flags ∧ I64 e.xPacket.seg.window ∧ e.xPacket.seg.body.size ≤ maxLen ∧ I64 e.xSize ∧ I64 e.xCut ∧ e.xFrame.size ≤ maxLen ∧ I64 e.xBudget
structure CardActM where
  xKind : Int
  xFunction : Int
  xAct : ActM
  xMessage : MessageM
  xImage : ByteArray
  xPart : Int
def CardActM.val (e : CardActM) : Value := .agg #[.int .i64 e.xKind, .int .i64 e.xFunction, .int .i64 e.xAct.xKind, .int .i64 e.xAct.xPacket.dmac, .int .i64 e.xAct.xPacket.smac, .int .i64 e.xAct.xPacket.vlan, .int .i64 e.xAct.xPacket.tos, .int .i64 e.xAct.xPacket.id, .int .i64 e.xAct.xPacket.ttl, .int .i64 e.xAct.xPacket.sip, .int .i64 e.xAct.xPacket.dip, .int .i64 e.xAct.xPacket.seg.kind, .int .i64 e.xAct.xPacket.seg.sport, .int .i64 e.xAct.xPacket.seg.dport, .int .i64 e.xAct.xPacket.seg.seq, .int .i64 e.xAct.xPacket.seg.ack, .int .i64 e.xAct.xPacket.seg.flags, .int .i64 e.xAct.xPacket.seg.window, .string e.xAct.xPacket.seg.body, .int .i64 e.xAct.xSize, .int .i64 e.xAct.xCut, .string e.xAct.xFrame, .int .i64 e.xAct.xBudget, .int .i64 e.xMessage.xSeq, .int .i64 e.xMessage.xOp, .int .i64 e.xMessage.xArg, .string e.xImage, .int .i64 e.xPart]
def CardActM.Wf (e : CardActM) : Prop := I64 e.xKind ∧ I64 e.xFunction ∧ I64 e.xAct.xKind ∧ I64 e.xAct.xPacket.dmac ∧ I64 e.xAct.xPacket.smac ∧ I64 e.xAct.xPacket.vlan ∧ I64 e.xAct.xPacket.tos ∧ I64 e.xAct.xPacket.id ∧ I64 e.xAct.xPacket.ttl ∧ I64 e.xAct.xPacket.sip ∧ I64 e.xAct.xPacket.dip ∧ I64 e.xAct.xPacket.seg.kind ∧ I64 e.xAct.xPacket.seg.sport ∧ I64 e.xAct.xPacket.seg.dport ∧ I64 e.xAct.xPacket.seg.seq ∧ I64 e.xAct.xPacket.seg.ack ∧ I64 e.xAct.xPacket.seg.flags ∧ I64 e.xAct.xPacket.seg.window ∧ e.xAct.xPacket.seg.body.size ≤ maxLen ∧ I64 e.xAct.xSize ∧ I64 e.xAct.xCut ∧ e.xAct.xFrame.size ≤ maxLen ∧ I64 e.xAct.xBudget ∧ I64 e.xMessage.xSeq ∧ I64 e.xMessage.xOp ∧ I64 e.xMessage.xArg ∧ e.xImage.size ≤ maxLen ∧ I64 e.xPart
end Go.Proofs.Ytfbnjemmmgobkaa
