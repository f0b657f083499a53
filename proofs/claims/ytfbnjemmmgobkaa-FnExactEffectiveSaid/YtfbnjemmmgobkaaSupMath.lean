/- Super-packets: the plain mathematics of their fields. -/
import Derived.Test.YtfbnjemmmgobkaaPktMath
namespace Go.Proofs.Ytfbnjemmmgobkaa
def SupM.val (s : SupM) : Value := .agg #[.int .i64 s.pkt.dmac, .int .i64 s.pkt.smac, .int .i64 s.pkt.vlan, .int .i64 s.pkt.tos, .int .i64 s.pkt.id, .int .i64 s.pkt.ttl, .int .i64 s.pkt.sip, .int .i64 s.pkt.dip,
  .int .i64 s.pkt.seg.kind, .int .i64 s.pkt.seg.sport, .int .i64 s.pkt.seg.dport, .int .i64 s.pkt.seg.seq, .int .i64 s.pkt.seg.ack, .int .i64 s.pkt.seg.flags, .int .i64 s.pkt.seg.window, .string s.pkt.seg.body, .int .i64 s.size, .int .i64 s.count]
def SupM.Wf (s : SupM) : Prop := s.pkt.Wf ∧ I64 s.size ∧ I64 s.count
def PktM.single (p : PktM) : SupM := ⟨p, p.seg.body.size, 1⟩
end Go.Proofs.Ytfbnjemmmgobkaa
