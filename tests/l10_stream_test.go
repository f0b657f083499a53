package tests

import (
	"math"
	"slices"
	"testing"

	"loop.example/g03312/impl"
)

// streamOf is the stream of a packet's flow that expects the packet next.
func streamOf(p impl.Packet) impl.Stream {
	return impl.Stream{Flow: impl.FlowOf(p), Next: p.Seg.Seq, Data: "before"}
}

func checkDeliver(t *testing.T, name string, list []impl.Stream, p impl.Packet, want []impl.Stream) {
	t.Helper()
	if got := impl.Deliver(list, p); !slices.Equal(got, want) {
		t.Errorf("%s: Deliver returns %+v, want %+v", name, got, want)
	}
	if got := impl.DeliverAll(list, []impl.Packet{p}); !slices.Equal(got, want) {
		t.Errorf("%s: DeliverAll returns %+v, want %+v", name, got, want)
	}
	// A super-packet is delivered by its packet, whatever it says of its pieces.
	if got := impl.DeliverSupers(list, []impl.Super{{Packet: p, Size: -1, Count: 7}}); !slices.Equal(got, want) {
		t.Errorf("%s: DeliverSupers returns %+v, want %+v", name, got, want)
	}
}

func TestStreamIndex(t *testing.T) {
	f := impl.Flow{Kind: 1, SrcIp: 2, DstIp: 3, SrcPort: 4, DstPort: 5}
	others := []impl.Flow{
		{Kind: 0, SrcIp: 2, DstIp: 3, SrcPort: 4, DstPort: 5}, {Kind: 1, SrcIp: 0, DstIp: 3, SrcPort: 4, DstPort: 5},
		{Kind: 1, SrcIp: 2, DstIp: 0, SrcPort: 4, DstPort: 5}, {Kind: 1, SrcIp: 2, DstIp: 3, SrcPort: 0, DstPort: 5},
		{Kind: 1, SrcIp: 2, DstIp: 3, SrcPort: 4, DstPort: 0}, {Kind: 1, SrcIp: 3, DstIp: 2, SrcPort: 5, DstPort: 4},
	}
	var list []impl.Stream
	for _, g := range others {
		list = append(list, impl.Stream{Flow: g, Data: "other"})
		if got := impl.StreamIndex(list, f); got != -1 {
			t.Errorf("among %d other flows: got %d", len(list), got)
		}
		if got := impl.DataOf(list, f); got != "" {
			t.Errorf("among %d other flows: got the data %q", len(list), got)
		}
	}
	list = append(list, impl.Stream{Flow: f, Data: "first"}, impl.Stream{Flow: f, Data: "second"})
	if got := impl.StreamIndex(list, f); got != len(others) {
		t.Errorf("StreamIndex: got %d", got)
	}
	if got := impl.DataOf(list, f); got != "first" {
		t.Errorf("DataOf: got %q", got)
	}
	for i, g := range others {
		if got := impl.StreamIndex(list, g); got != i {
			t.Errorf("StreamIndex of flow %d: got %d", i, got)
		}
	}
	if impl.StreamIndex(nil, f) != -1 || impl.StreamIndex(nil, impl.Flow{}) != -1 || impl.DataOf(nil, f) != "" {
		t.Error("a stream is found among none")
	}
}

func TestDeliverUdp(t *testing.T) {
	p := udp("hello")
	f := impl.FlowOf(p)
	opened := impl.Stream{Flow: f, Data: "\x00\x05hello"}
	checkDeliver(t, "the first datagram", nil, p, []impl.Stream{opened})
	twice := impl.Stream{Flow: f, Data: "\x00\x05hello\x00\x05hello"}
	checkDeliver(t, "the second datagram", []impl.Stream{opened}, p, []impl.Stream{twice})
	checkDeliver(t, "an empty datagram", nil, udp(""), []impl.Stream{{Flow: f, Data: "\x00\x00"}})
	checkDeliver(t, "the longest datagram", nil, udp(text(128)), []impl.Stream{{Flow: f, Data: "\x00\x80" + text(128)}})
	other := streamOf(tcp(""))
	checkDeliver(t, "a datagram of a new flow", []impl.Stream{other}, p, []impl.Stream{other, opened})
	odd := impl.Stream{Flow: f, Next: 5, Data: "x", Done: true}
	after := odd
	after.Data = "x\x00\x05hello"
	checkDeliver(t, "two streams of a flow", []impl.Stream{other, odd, opened}, p, []impl.Stream{other, after, opened})
}

func TestDeliverSyn(t *testing.T) {
	for flags := range 32 {
		if flags&impl.FlagSyn == 0 {
			continue
		}
		p := flagged(tcp("hello"), flags)
		opened := impl.Stream{Flow: impl.FlowOf(p), Next: 1001}
		checkDeliver(t, "the first packet", nil, p, []impl.Stream{opened})
		checkDeliver(t, "the first packet again", []impl.Stream{opened}, p, []impl.Stream{opened})
		for _, s := range []impl.Stream{streamOf(p), {Flow: impl.FlowOf(p), Next: 1000, Done: true}, {Flow: impl.FlowOf(p), Next: -4}} {
			checkDeliver(t, "FlagSyn within a stream", []impl.Stream{s}, p, []impl.Stream{s})
		}
	}
	for _, c := range [][2]int{{0, 1}, {most32 - 1, most32}, {most32, 0}} {
		p := flagged(tcp(""), impl.FlagSyn)
		p.Seg.Seq = c[0]
		checkDeliver(t, "the first packet", nil, p, []impl.Stream{{Flow: impl.FlowOf(p), Next: c[1]}})
	}
	p := flagged(tcp(""), impl.FlagSyn)
	other := streamOf(udp(""))
	checkDeliver(t, "a new flow", []impl.Stream{other}, p, []impl.Stream{other, {Flow: impl.FlowOf(p), Next: 1001}})
}

func TestDeliverTcp(t *testing.T) {
	for flags := range 32 {
		if flags&impl.FlagSyn != 0 {
			continue
		}
		p := flagged(tcp("hello"), flags)
		s := streamOf(p)
		checkDeliver(t, "a packet without a stream", nil, p, nil)
		other := streamOf(udp("x"))
		checkDeliver(t, "a packet of an unknown flow", []impl.Stream{other}, p, []impl.Stream{other})
		done := s
		done.Done = true
		checkDeliver(t, "a packet behind the last one", []impl.Stream{done}, p, []impl.Stream{done})
		after := s
		if flags&impl.FlagRst == 0 {
			after = impl.Stream{Flow: s.Flow, Next: 1005, Data: "beforehello", Done: flags&impl.FlagFin != 0}
		}
		checkDeliver(t, "the next packet with the flags "+impl.FormatInt(flags), []impl.Stream{other, s, s}, p, []impl.Stream{other, after, s})
	}
}

func TestDeliverOffsets(t *testing.T) {
	for _, seq := range []int{0, 1000, most32 - 5, most32 - 4, most32 - 2, most32} {
		for by := -7; by <= 12; by++ {
			for _, flags := range []int{impl.FlagAck, impl.FlagAck + impl.FlagFin} {
				p := flagged(tcp("hello"), flags)
				p.Seg.Seq = seq
				s := streamOf(p)
				s.Next = (seq + by) & most32
				after := s
				if by >= 0 && by <= 5 {
					after.Data += "hello"[by:]
					after.Next = (seq + 5) & most32
					after.Done = flags&impl.FlagFin != 0
				}
				checkDeliver(t, "Seq "+impl.FormatInt(seq)+" and "+impl.FormatInt(by)+" known bytes", []impl.Stream{s}, p, []impl.Stream{after})
			}
		}
	}
}

func TestDeliverEmptyBody(t *testing.T) {
	p := tcp("")
	s := streamOf(p)
	checkDeliver(t, "an empty packet", []impl.Stream{s}, p, []impl.Stream{s})
	done := s
	done.Done = true
	checkDeliver(t, "an empty last packet", []impl.Stream{s}, flagged(p, impl.FlagFin), []impl.Stream{done})
	for _, by := range []int{-1, 1, 1 << 31} {
		later := s
		later.Next += by
		checkDeliver(t, "an empty last packet elsewhere", []impl.Stream{later}, flagged(p, impl.FlagFin), []impl.Stream{later})
	}
}

func TestDeliverNextPastItsRange(t *testing.T) {
	p := tcp("hello")
	for _, next := range []int{1000 - 1<<32, 1000 + 1<<32, 1002 + 5<<32, 1000 - 1<<40, math.MinInt + 1000, math.MinInt + 1003, math.MaxInt - most32 + 1001} {
		s := streamOf(p)
		s.Next = next
		known := int(uint32(next)) - 1000
		after := impl.Stream{Flow: s.Flow, Next: 1005, Data: s.Data + "hello"[known:]}
		checkDeliver(t, "Next is "+impl.FormatInt(next), []impl.Stream{s}, p, []impl.Stream{after})
	}
	for _, next := range []int{math.MinInt, math.MaxInt, -1, 1 << 32} {
		s := streamOf(p)
		s.Next = next
		checkDeliver(t, "Next is "+impl.FormatInt(next), []impl.Stream{s}, p, []impl.Stream{s})
	}
	last := tcp("ab")
	last.Seg.Seq = most32
	s := streamOf(last)
	s.Next = math.MaxInt
	checkDeliver(t, "Next is the greatest number", []impl.Stream{s}, last, []impl.Stream{{Flow: s.Flow, Next: 1, Data: "beforeab"}})
}

func TestDeliverRefuses(t *testing.T) {
	bad := tcp("hello")
	bad.Ttl = 256
	badUdp := udp("hello")
	badUdp.Seg.Window = 1
	syn := flagged(tcp("a"), impl.FlagSyn)
	syn.Vlan = 4096
	for _, p := range []impl.Packet{{}, bad, badUdp, syn, tcp(text(321)), udp(text(129)), flagged(tcp(text(129)), impl.FlagSyn), flagged(tcp("a"), 32)} {
		s := streamOf(p)
		checkDeliver(t, "an invalid packet without a stream", nil, p, nil)
		checkDeliver(t, "an invalid packet", []impl.Stream{s}, p, []impl.Stream{s})
	}
	long := tcp(text(320))
	checkDeliver(t, "the longest super-packet", []impl.Stream{streamOf(long)}, long, []impl.Stream{{Flow: impl.FlowOf(long), Next: 1320, Data: "before" + text(320)}})
}

func TestDeliverInOrder(t *testing.T) {
	f := impl.FlowOf(tcp(""))
	packets := []impl.Packet{tcp("lost"), flagged(tcp(""), impl.FlagSyn), tcp("xabc"), udp("u"), tcp("wxyz")}
	packets[2].Seg.Seq, packets[4].Seg.Seq = 1000, 1002
	want := []impl.Stream{{Flow: f, Next: 1006, Data: "abcyz"}, {Flow: impl.FlowOf(udp("")), Data: "\x00\x01u"}}
	var supers []impl.Super
	for _, p := range packets {
		supers = append(supers, impl.Single(p))
	}
	if got := impl.DeliverAll(nil, packets); !slices.Equal(got, want) {
		t.Errorf("DeliverAll: got %+v", got)
	}
	if got := impl.DeliverSupers(nil, supers); !slices.Equal(got, want) {
		t.Errorf("DeliverSupers: got %+v", got)
	}
	if impl.DataOf(want, f) != "abcyz" || impl.DataOf(want, impl.FlowOf(udp(""))) != "\x00\x01u" {
		t.Error("DataOf returns other data")
	}
	for _, list := range [][]impl.Stream{nil, want} {
		if got := impl.DeliverAll(list, nil); !slices.Equal(got, list) {
			t.Errorf("DeliverAll of nothing: got %+v", got)
		}
		if got := impl.DeliverSupers(list, nil); !slices.Equal(got, list) {
			t.Errorf("DeliverSupers of nothing: got %+v", got)
		}
	}
}

// shuffledFlows are super-packets of several flows with opened streams, some lost, doubled or out of order.
func shuffledFlows(seed uint64) []impl.Packet {
	r := newRandom(seed)
	var list []impl.Packet
	for port := range 3 {
		p := flagged(tcp(""), impl.FlagSyn)
		p.Seg.SrcPort, p.Seg.Seq = port, most32-int(r.UintN(1500))
		list = append(list, p)
		next := (p.Seg.Seq + 1) & most32
		for range 8 {
			p := tcp(randomText(r, int(r.UintN(321))))
			p.Id, p.Seg.SrcPort, p.Seg.Seq = int(r.UintN(most16+1)), port, next
			if r.UintN(9) == 0 {
				p.Seg.Flags += impl.FlagFin
			}
			next = (next + len(p.Seg.Body)) & most32
			list = append(list, p)
			if r.UintN(3) == 0 {
				list = append(list, p, udp(randomText(r, int(r.UintN(129)))))
			}
		}
		if i, j := r.IntN(len(list)), r.IntN(len(list)); port > 0 {
			list[i], list[j] = list[j], list[i]
		}
	}
	return list
}

func TestStreamsAreTheSameInAllForms(t *testing.T) {
	delivered := 0
	for seed := range uint64(60) {
		list := shuffledFlows(seed)
		want := impl.DeliverAll(nil, list)
		for _, s := range want {
			delivered += len(s.Data)
		}
		for _, size := range []int{1, 17, 100, 128} {
			var split []impl.Packet
			for _, p := range list {
				split = append(split, impl.Split(p, size)...)
			}
			supers := impl.Coalesce(split)
			if got := impl.DeliverAll(nil, split); !slices.Equal(got, want) {
				t.Errorf("seed %d, size %d: the pieces give other streams", seed, size)
			}
			if got := impl.DeliverSupers(nil, supers); !slices.Equal(got, want) {
				t.Errorf("seed %d, size %d: the coalesced packets give other streams", seed, size)
			}
			if got := impl.DeliverAll(nil, impl.Resegment(supers)); !slices.Equal(got, want) {
				t.Errorf("seed %d, size %d: the packets that come back give other streams", seed, size)
			}
		}
		var one []impl.Stream
		for _, p := range list {
			one = impl.Deliver(one, p)
		}
		if !slices.Equal(one, want) {
			t.Errorf("seed %d: one by one the packets give other streams", seed)
		}
	}
	if delivered < 60*1000 {
		t.Errorf("only %d bytes were delivered", delivered)
	}
}

func TestDeliverLeavesArgumentsAlone(t *testing.T) {
	p := tcp("hello")
	list := []impl.Stream{streamOf(p), streamOf(udp("x"))}
	spare := impl.Stream{Data: "spare"}
	fresh := udp("new")
	fresh.Seg.SrcPort = 7
	packets := []impl.Packet{{}, p, udp("x"), fresh, flagged(fresh, impl.FlagFin)}
	supers := []impl.Super{impl.Single(p), impl.Single(fresh)}
	for _, streams := range [][]impl.Stream{list, list[:1], list[:0]} {
		for _, q := range packets {
			checkUnchanged(t, streams, spare, func(s []impl.Stream) []impl.Stream { return impl.Deliver(s, q) })
		}
		checkUnchanged(t, streams, spare, func(s []impl.Stream) []impl.Stream { return impl.DeliverAll(s, packets) })
		checkUnchanged(t, streams, spare, func(s []impl.Stream) []impl.Stream { return impl.DeliverAll(s, nil) })
		checkUnchanged(t, streams, spare, func(s []impl.Stream) []impl.Stream { return impl.DeliverSupers(s, supers) })
		checkUnchanged(t, streams, spare, func(s []impl.Stream) []impl.Stream { return impl.DeliverSupers(s, nil) })
	}
	checkUnchanged(t, packets, fresh, func(q []impl.Packet) []impl.Stream { return impl.DeliverAll(list, q) })
	checkUnchanged(t, supers, impl.Single(p), func(q []impl.Super) []impl.Stream { return impl.DeliverSupers(list, q) })
}
