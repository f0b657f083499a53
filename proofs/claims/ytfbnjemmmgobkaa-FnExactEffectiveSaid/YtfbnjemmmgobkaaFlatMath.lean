/- Flat structs: their fields and their value. -/
import Derived.Test.YtfbnjemmmgobkaaPktMath
namespace Go.Proofs.Ytfbnjemmmgobkaa
structure RuleM where
  xPriority : Int
  xKind : Int
  xSrcIp : Int
  xSrcBits : Int
  xFirstPort : Int
  xLastPort : Int
  xVlan : Int
  xAction : Int
  xQueue : Int
def RuleM.val (e : RuleM) : Value := .agg #[.int .i64 e.xPriority, .int .i64 e.xKind, .int .i64 e.xSrcIp, .int .i64 e.xSrcBits, .int .i64 e.xFirstPort, .int .i64 e.xLastPort, .int .i64 e.xVlan, .int .i64 e.xAction, .int .i64 e.xQueue]
def RuleM.Wf (e : RuleM) : Prop := I64 e.xPriority ∧ I64 e.xKind ∧ I64 e.xSrcIp ∧ I64 e.xSrcBits ∧ I64 e.xFirstPort ∧ I64 e.xLastPort ∧ I64 e.xVlan ∧ I64 e.xAction ∧ I64 e.xQueue
structure MappingM where
  xDomain : Int
  xVirtual : Int
  xPhysical : Int
  xWritable : Bool
def MappingM.val (e : MappingM) : Value := .agg #[.int .i64 e.xDomain, .int .i64 e.xVirtual, .int .i64 e.xPhysical, .bool e.xWritable]
def MappingM.Wf (e : MappingM) : Prop := I64 e.xDomain ∧ I64 e.xVirtual ∧ I64 e.xPhysical
structure PieceM where
  xAt : Int
  xLen : Int
def PieceM.val (e : PieceM) : Value := .agg #[.int .i64 e.xAt, .int .i64 e.xLen]
def PieceM.Wf (e : PieceM) : Prop := I64 e.xAt ∧ I64 e.xLen
structure DescM where
  xOp : Int
  xFlags : Int
  xLen : Int
  xAt : Int
  xSize : Int
  xCookie : Int
def DescM.val (e : DescM) : Value := .agg #[.int .i64 e.xOp, .int .i64 e.xFlags, .int .i64 e.xLen, .int .i64 e.xAt, .int .i64 e.xSize, .int .i64 e.xCookie]
def DescM.Wf (e : DescM) : Prop := I64 e.xOp ∧ I64 e.xFlags ∧ I64 e.xLen ∧ I64 e.xAt ∧ I64 e.xSize ∧ I64 e.xCookie
structure RingM where
  xBase : Int
  xSize : Int
  xHead : Int
  xTail : Int
def RingM.val (e : RingM) : Value := .agg #[.int .i64 e.xBase, .int .i64 e.xSize, .int .i64 e.xHead, .int .i64 e.xTail]
def RingM.Wf (e : RingM) : Prop := I64 e.xBase ∧ I64 e.xSize ∧ I64 e.xHead ∧ I64 e.xTail
structure CompletionM where
  xCookie : Int
  xLen : Int
  xSize : Int
  xCount : Int
  xHash : Int
def CompletionM.val (e : CompletionM) : Value := .agg #[.int .i64 e.xCookie, .int .i64 e.xLen, .int .i64 e.xSize, .int .i64 e.xCount, .int .i64 e.xHash]
def CompletionM.Wf (e : CompletionM) : Prop := I64 e.xCookie ∧ I64 e.xLen ∧ I64 e.xSize ∧ I64 e.xCount ∧ I64 e.xHash
structure CompletionQueueM where
  xBase : Int
  xSize : Int
  xCount : Int
def CompletionQueueM.val (e : CompletionQueueM) : Value := .agg #[.int .i64 e.xBase, .int .i64 e.xSize, .int .i64 e.xCount]
def CompletionQueueM.Wf (e : CompletionQueueM) : Prop := I64 e.xBase ∧ I64 e.xSize ∧ I64 e.xCount
structure VectorM where
  xMaxCount : Int
  xMaxTime : Int
  xCount : Int
  xTime : Int
  xMasked : Bool
  xRaised : Bool
def VectorM.val (e : VectorM) : Value := .agg #[.int .i64 e.xMaxCount, .int .i64 e.xMaxTime, .int .i64 e.xCount, .int .i64 e.xTime, .bool e.xMasked, .bool e.xRaised]
def VectorM.Wf (e : VectorM) : Prop := I64 e.xMaxCount ∧ I64 e.xMaxTime ∧ I64 e.xCount ∧ I64 e.xTime
structure BucketM where
  xRate : Int
  xBurst : Int
  xTokens : Int
def BucketM.val (e : BucketM) : Value := .agg #[.int .i64 e.xRate, .int .i64 e.xBurst, .int .i64 e.xTokens]
def BucketM.Wf (e : BucketM) : Prop := I64 e.xRate ∧ I64 e.xBurst ∧ I64 e.xTokens
structure ClockM where
  xTime : Int
  xFraction : Int
  xRate : Int
  xDebt : Int
def ClockM.val (e : ClockM) : Value := .agg #[.int .i64 e.xTime, .int .i64 e.xFraction, .int .i64 e.xRate, .int .i64 e.xDebt]
def ClockM.Wf (e : ClockM) : Prop := I64 e.xTime ∧ I64 e.xFraction ∧ I64 e.xRate ∧ I64 e.xDebt
structure MessageM where
  xSeq : Int
  xOp : Int
  xArg : Int
def MessageM.val (e : MessageM) : Value := .agg #[.int .i64 e.xSeq, .int .i64 e.xOp, .int .i64 e.xArg]
def MessageM.Wf (e : MessageM) : Prop := I64 e.xSeq ∧ I64 e.xOp ∧ I64 e.xArg
structure CountersM where
  xFrames : Int
  xBad : Int
  xFiltered : Int
  xRefused : Int
  xTaken : Int
def CountersM.val (e : CountersM) : Value := .agg #[.int .i64 e.xFrames, .int .i64 e.xBad, .int .i64 e.xFiltered, .int .i64 e.xRefused, .int .i64 e.xTaken]
def CountersM.Wf (e : CountersM) : Prop := I64 e.xFrames ∧ I64 e.xBad ∧ I64 e.xFiltered ∧ I64 e.xRefused ∧ I64 e.xTaken
end Go.Proofs.Ytfbnjemmmgobkaa
