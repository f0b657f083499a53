package tests

import (
	"slices"
	"testing"

	"loop.example/g03312/impl"
)

// steering is a valid steering over three queues: a rule that drops, one for a queue, a pinned flow, and the rest spread.
func steering() impl.Steering {
	table, _ := impl.PutFlow(impl.NewTable(), impl.FlowOf(udp("")), 2)
	drop := impl.Rule{Priority: 2, FirstPort: 80, LastPort: 80, Vlan: 9, Action: impl.RuleDrop}
	queue := impl.Rule{Priority: 5, LastPort: most16, Vlan: 9, Queue: 1}
	return impl.Steering{
		Rules: []impl.Rule{queue, drop}, Table: table,
		Spread: impl.Spread{Key: rssKey, Table: []int{0, 1, 2, 0}},
	}
}

func sameSteering(a impl.Steering, b impl.Steering) bool {
	return slices.Equal(a.Rules, b.Rules) && sameTable(a.Table, b.Table) && sameSpread(a.Spread, b.Spread)
}

// withTag is a packet with another tag.
func withTag(p impl.Packet, vlan int) impl.Packet {
	p.Vlan = vlan
	return p
}

func TestSteeringOk(t *testing.T) {
	if impl.SteerDropped != -1 {
		t.Error("another constant", impl.SteerDropped)
	}
	for _, queues := range append([]int{-1, 0, 1, 2, 3, 4, 5}, far...) {
		if got := impl.SteeringOk(steering(), queues); got != (queues == 3 || queues == 4) {
			t.Errorf("%d queues: got %v", queues, got)
		}
		for most := range 6 {
			rules, table, spread := steering(), steering(), steering()
			rules.Rules[0].Queue = most
			rules.Table, rules.Spread.Table = impl.NewTable(), []int{0}
			table.Rules, table.Spread.Table = nil, []int{0}
			at := impl.FindFlow(table.Table, impl.FlowOf(udp("")))
			table.Table.Slots[at].Queue = most
			spread.Rules, spread.Table = nil, impl.NewTable()
			spread.Spread.Table = []int{0, most}
			want := queues >= 1 && queues <= 4 && most < queues
			for i, s := range []impl.Steering{rules, table, spread} {
				if got := impl.SteeringOk(s, queues); got != want {
					t.Errorf("%d queues and the queue %d in part %d: got %v", queues, most, i, got)
				}
			}
		}
	}
	// A rule that drops has the queue 0, and so it suits one queue too.
	one := impl.Steering{Rules: []impl.Rule{{LastPort: 1, Vlan: -2, Action: impl.RuleDrop}}, Table: impl.NewTable(), Spread: impl.Spread{Key: rssKey, Table: []int{0}}}
	if !impl.SteeringOk(one, 1) || impl.SteeringOk(impl.Steering{}, 1) {
		t.Error("a steering for one queue is refused, or the zero steering is not")
	}
	for i, s := range invalidSteerings() {
		for queues := range 6 {
			if impl.SteeringOk(s, queues) {
				t.Errorf("the invalid steering %d is accepted for %d queues", i, queues)
			}
		}
	}
}

// invalidSteerings are steerings of which one part is not valid.
func invalidSteerings() []impl.Steering {
	changes := []func(*impl.Steering){
		func(s *impl.Steering) { s.Rules[0].Priority = -1 }, func(s *impl.Steering) { s.Rules[1].Queue = 1 },
		func(s *impl.Steering) { s.Rules = slices.Repeat(s.Rules, 7) },
		func(s *impl.Steering) { s.Rules[0].Queue = -1 },
		func(s *impl.Steering) { s.Table = impl.FlowTable{} }, func(s *impl.Steering) { s.Table.Slots[0].State = 3 },
		func(s *impl.Steering) { s.Table.Slots = s.Table.Slots[:7] },
		func(s *impl.Steering) { s.Spread.Key = text(15) }, func(s *impl.Steering) { s.Spread.Table = s.Spread.Table[:3] },
		func(s *impl.Steering) { s.Spread.Table[0] = -1 },
	}
	list := []impl.Steering{{}}
	for _, change := range changes {
		s := steering()
		change(&s)
		list = append(list, s)
	}
	return list
}

// queueOf is SteerPacket for valid arguments.
func queueOf(s impl.Steering, queues int, p impl.Packet) int {
	if at := impl.FindRule(s.Rules, p); at >= 0 {
		if s.Rules[at].Action == impl.RuleDrop {
			return -1
		}
		return s.Rules[at].Queue
	}
	if at := impl.FindFlow(s.Table, impl.FlowOf(p)); at >= 0 {
		return s.Table.Slots[at].Queue
	}
	return impl.SpreadQueue(s.Spread, queues, impl.FlowOf(p))
}

func TestSteerPacket(t *testing.T) {
	s := steering()
	tagged, dropped := withTag(udp("a"), 9), withTag(tcp("a"), 9)
	cases := []struct {
		name string
		p    impl.Packet
		want int
	}{
		{"a rule before the table", tagged, 1}, {"a rule that drops", dropped, -1}, {"the table", udp("a"), 2},
		{"the table for another tag", withTag(udp("b"), 8), 2}, {"the spread", tcp("a"), impl.SpreadQueue(s.Spread, 3, impl.FlowOf(tcp("")))},
	}
	for _, c := range cases {
		if got := impl.SteerPacket(s, 3, c.p); got != c.want {
			t.Errorf("%s: got %d, want %d", c.name, got, c.want)
		}
	}
	seen := map[int]bool{}
	for port := range 200 {
		p := tcp("a")
		p.Seg.SrcPort, p.Vlan = port, port%11-1
		p.Seg.DstPort = 79 + port%3
		want := queueOf(s, 3, p)
		if got := impl.SteerPacket(s, 3, p); got != want {
			t.Errorf("%+v comes to %d, not to %d", p, got, want)
		}
		seen[want] = true
	}
	if len(seen) != 4 {
		t.Errorf("only the queues %v were chosen", seen)
	}
}

func TestSteerPacketRefuses(t *testing.T) {
	long := udp(text(129))
	for _, p := range []impl.Packet{{}, long, withTag(udp("a"), 4096), withTag(tcp("a"), -2)} {
		if got := impl.SteerPacket(steering(), 3, p); got != -1 {
			t.Errorf("the invalid packet %+v comes to %d", p, got)
		}
	}
	for i, s := range invalidSteerings() {
		for _, p := range []impl.Packet{udp("a"), tcp("a"), withTag(udp("a"), 9)} {
			if got := impl.SteerPacket(s, 3, p); got != -1 {
				t.Errorf("with the invalid steering %d, a packet comes to %d", i, got)
			}
		}
	}
	for _, queues := range append([]int{-1, 0, 1, 2, 5}, far...) {
		if got := impl.SteerPacket(steering(), queues, withTag(udp("a"), 9)); got != -1 {
			t.Errorf("with %d queues, a packet comes to %d", queues, got)
		}
	}
}

func TestAFlowWithOneTagComesToOneQueue(t *testing.T) {
	for seed := range uint64(60) {
		r := newRandom(seed)
		var rules []impl.Rule
		for k := range seed % 5 {
			rules = append(rules, randomRule(seed*10+k))
		}
		s := impl.Steering{Rules: rules, Table: impl.NewTable(), Spread: impl.Spread{Key: randomText(r, 16), Table: impl.EvenTable(8, 4)}}
		s, _ = impl.PinFlows(s, 4, manyFlows(4), int(r.UintN(4)))
		for _, p := range smallPackets() {
			want := impl.SteerPacket(s, 4, p)
			// All that does not belong to the flow and is not the tag may differ.
			p.DstMac, p.SrcMac, p.Tos, p.Id, p.Ttl = int(r.UintN(99)), int(r.UintN(99)), int(r.UintN(256)), int(r.UintN(65536)), int(r.UintN(256))
			if p.Seg.Kind == impl.KindTcp {
				p.Seg.Seq, p.Seg.Ack, p.Seg.Window, p.Seg.Flags = int(r.Uint32()), int(r.Uint32()), int(r.UintN(65536)), int(r.UintN(32))
			}
			p.Seg.Body = randomText(r, int(r.UintN(129)))
			if got := impl.SteerPacket(s, 4, p); got != want {
				t.Fatalf("seed %d: %+v comes to %d, and another one of its flow to %d", seed, p, got, want)
			}
		}
	}
}

func TestQueuePackets(t *testing.T) {
	s := steering()
	packets := append(smallPackets(), udp("a"), withTag(udp("b"), 9), impl.Packet{}, withTag(tcp("c"), 9), udp("a"))
	total := 0
	for queue := range 5 {
		var want []impl.Packet
		for _, p := range packets {
			if impl.SteerPacket(s, 3, p) == queue {
				want = append(want, p)
			}
		}
		total += len(want)
		if got := impl.QueuePackets(s, 3, packets, queue); !slices.Equal(got, want) {
			t.Errorf("the packets of queue %d: got %d, want %d", queue, len(got), len(want))
		}
		for i, bad := range invalidSteerings() {
			if got := impl.QueuePackets(bad, 3, packets, queue); len(got) != 0 {
				t.Errorf("the invalid steering %d has %d packets", i, len(got))
			}
		}
	}
	// The zero packet and one that a rule drops come to no queue.
	if total != len(packets)-2 {
		t.Errorf("%d of %d packets come to a queue", total, len(packets))
	}
	for _, queue := range append([]int{-1, 3, 4}, far...) {
		if got := impl.QueuePackets(s, 3, packets, queue); len(got) != 0 || queue < 0 && got != nil {
			t.Errorf("queue %d has %d packets", queue, len(got))
		}
	}
	if got := impl.QueuePackets(s, 3, nil, 0); len(got) != 0 {
		t.Errorf("of no packets, %d come to queue 0", len(got))
	}
	checkPure(t, impl.QueuePackets, s, 3, packets, 2)
	checkPure(t, impl.QueuePackets, s, 3, packets, -1)
}

func TestPinFlows(t *testing.T) {
	s := steering()
	flows := manyFlows(9)
	flows = append(flows, flows[0], impl.FlowOf(udp("")))
	for queue := range 3 {
		for n := range len(flows) + 1 {
			want, count := steering(), 0
			for _, f := range flows[:n] {
				table, ok := impl.PutFlow(want.Table, f, queue)
				if ok {
					count++
				}
				want.Table = table
			}
			got, pinned := impl.PinFlows(s, 3, flows[:n], queue)
			if pinned != count || !sameSteering(got, want) || !impl.SteeringOk(got, 3) {
				t.Errorf("%d flows to queue %d: got %+v, %d, want %+v, %d", n, queue, got, pinned, want, count)
			}
		}
	}
	// One slot is used and two of the flows have one already, so that only seven new flows get one.
	if _, n := impl.PinFlows(s, 3, flows, 1); n != 9 {
		t.Errorf("%d flows were pinned", n)
	}
	for _, queue := range append([]int{-1, 3, 4}, far...) {
		if got, n := impl.PinFlows(s, 3, flows, queue); n != 0 || !sameSteering(got, s) {
			t.Errorf("the queue %d: got %+v, %d", queue, got, n)
		}
	}
	for _, queues := range append([]int{-1, 0, 2, 5}, far...) {
		if got, n := impl.PinFlows(s, queues, flows, 0); n != 0 || !sameSteering(got, s) {
			t.Errorf("%d queues: got %+v, %d", queues, got, n)
		}
	}
	for i, bad := range invalidSteerings() {
		if got, n := impl.PinFlows(bad, 3, flows, 1); n != 0 || !sameSteering(got, bad) {
			t.Errorf("the invalid steering %d: got %+v, %d", i, got, n)
		}
		checkPure(t, impl.PinFlows, bad, 3, flows, 1)
	}
	checkPure(t, impl.PinFlows, s, 3, flows, 1)
	checkPure(t, impl.PinFlows, s, 3, flows, 3)
	checkPure(t, impl.SteerPacket, s, 3, udp("a"))
	checkPure(t, impl.SteeringOk, s, 3)
}

func TestPinnedFlowsComeToTheirQueue(t *testing.T) {
	p := tcp("a")
	for queue := range 3 {
		s, n := impl.PinFlows(steering(), 3, []impl.Flow{impl.FlowOf(p)}, queue)
		if got := impl.SteerPacket(s, 3, p); n != 1 || got != queue {
			t.Errorf("a flow pinned to %d comes to %d", queue, got)
		}
	}
}
