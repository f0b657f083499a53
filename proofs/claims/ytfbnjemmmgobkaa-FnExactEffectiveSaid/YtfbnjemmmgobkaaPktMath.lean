/- Datagrams, segments, packets: the plain mathematics of their fields. -/
import Derived.Test.YtfbnjemmmgobkaaEthMath
namespace Go.Proofs.Ytfbnjemmmgobkaa


structure IpM where
  tos : Int
  id : Int
  ttl : Int
  proto : Int
  src : Int
  dst : Int
  body : ByteArray
def IpM.cells (e : IpM) : List Value := [.int .i64 e.tos, .int .i64 e.id, .int .i64 e.ttl, .int .i64 e.proto, .int .i64 e.src, .int .i64 e.dst, .string e.body]
def IpM.val (e : IpM) : Value := .agg #[.int .i64 e.tos, .int .i64 e.id, .int .i64 e.ttl, .int .i64 e.proto, .int .i64 e.src, .int .i64 e.dst, .string e.body]
def IpM.Wf (e : IpM) : Prop := I64 e.tos ∧ I64 e.id ∧ I64 e.ttl ∧ I64 e.proto ∧ I64 e.src ∧ I64 e.dst ∧ e.body.size ≤ maxLen
def IpM.Ok (e : IpM) : Prop := (0 ≤ e.tos ∧ e.tos ≤ 255) ∧ (0 ≤ e.ttl ∧ e.ttl ≤ 255) ∧ (0 ≤ e.proto ∧ e.proto ≤ 255) ∧ (0 ≤ e.id ∧ e.id ≤ 65535) ∧ (0 ≤ e.src ∧ e.src ≤ 4294967295) ∧ (0 ≤ e.dst ∧ e.dst ≤ 4294967295) ∧ (e.body.size : Int) ≤ 380
instance (e : IpM) : Decidable e.Ok := by unfold IpM.Ok; infer_instance

structure SegM where
  kind : Int
  sport : Int
  dport : Int
  seq : Int
  ack : Int
  flags : Int
  window : Int
  body : ByteArray
def SegM.val (g : SegM) : Value := .agg #[.int .i64 g.kind, .int .i64 g.sport, .int .i64 g.dport, .int .i64 g.seq, .int .i64 g.ack, .int .i64 g.flags, .int .i64 g.window, .string g.body]
def SegM.Wf (g : SegM) : Prop := I64 g.kind ∧ I64 g.sport ∧ I64 g.dport ∧ I64 g.seq ∧ I64 g.ack ∧ I64 g.flags ∧ I64 g.window ∧ g.body.size ≤ maxLen
def SegM.Ok (g : SegM) : Prop := (0 ≤ g.sport ∧ g.sport ≤ 65535) ∧ (0 ≤ g.dport ∧ g.dport ≤ 65535) ∧ (g.body.size : Int) ≤ 320 ∧
  ((g.kind = 17 ∧ g.seq = 0 ∧ g.ack = 0 ∧ g.flags = 0 ∧ g.window = 0) ∨
   (g.kind = 6 ∧ (0 ≤ g.seq ∧ g.seq ≤ 4294967295) ∧ (0 ≤ g.ack ∧ g.ack ≤ 4294967295) ∧ (0 ≤ g.flags ∧ g.flags ≤ 31) ∧ (0 ≤ g.window ∧ g.window ≤ 65535)))
instance (g : SegM) : Decidable g.Ok := by unfold SegM.Ok; infer_instance

structure PktM where
  dmac : Int
  smac : Int
  vlan : Int
  tos : Int
  id : Int
  ttl : Int
  sip : Int
  dip : Int
  seg : SegM
def PktM.val (p : PktM) : Value := .agg #[.int .i64 p.dmac, .int .i64 p.smac, .int .i64 p.vlan, .int .i64 p.tos, .int .i64 p.id, .int .i64 p.ttl, .int .i64 p.sip, .int .i64 p.dip,
  .int .i64 p.seg.kind, .int .i64 p.seg.sport, .int .i64 p.seg.dport, .int .i64 p.seg.seq, .int .i64 p.seg.ack, .int .i64 p.seg.flags, .int .i64 p.seg.window, .string p.seg.body]

def PktM.Wf (p : PktM) : Prop := I64 p.dmac ∧ I64 p.smac ∧ I64 p.vlan ∧ I64 p.tos ∧ I64 p.id ∧ I64 p.ttl ∧ I64 p.sip ∧ I64 p.dip ∧ p.seg.Wf

structure FlowM where
  kind : Int
  sip : Int
  dip : Int
  sport : Int
  dport : Int
def FlowM.val (f : FlowM) : Value := .agg #[.int .i64 f.kind, .int .i64 f.sip, .int .i64 f.dip, .int .i64 f.sport, .int .i64 f.dport]
def FlowM.Wf (f : FlowM) : Prop := I64 f.kind ∧ I64 f.sip ∧ I64 f.dip ∧ I64 f.sport ∧ I64 f.dport
def PktM.flow (p : PktM) : FlowM := ⟨p.seg.kind, p.sip, p.dip, p.seg.sport, p.seg.dport⟩

structure SupM where
  pkt : PktM
  size : Int
  count : Int

end Go.Proofs.Ytfbnjemmmgobkaa
