package tests

import (
	"slices"
	"testing"

	"loop.example/g03312/impl"
)

// busyIdeal is an ideal world in the middle of its work.
func busyIdeal(t testing.TB) impl.Ideal {
	s := impl.IdealOf(busyCard(t))
	s.Queues[0] = []string{frame(between(2, 4, -1, udp("waits"))), frame(between(99, 4, -1, udp("foreign"))), "no frame", frame(between(2, most48, 5, tcp("for all")))}
	s.Queues[2] = []string{frame(between(6, 2, -1, tcp("other")))}
	s.Softs[1].Sent = []string{"sent"}
	if !impl.IdealOk(s) {
		t.Fatal("the busy world is not valid")
	}
	return s
}

// badIdeals are worlds that are not valid.
func badIdeals(t testing.TB) map[string]impl.Ideal {
	changes := map[string]func(*impl.Ideal){
		"no functions":      func(s *impl.Ideal) { s.Softs, s.Queues, s.Functions, s.Boxes = nil, nil, nil, nil },
		"a host less":       func(s *impl.Ideal) { s.Softs = s.Softs[:2] },
		"a host more":       func(s *impl.Ideal) { s.Softs = append(s.Softs, s.Softs[0]) },
		"a queue less":      func(s *impl.Ideal) { s.Queues = s.Queues[:2] },
		"a queue more":      func(s *impl.Ideal) { s.Queues = append(s.Queues, nil) },
		"a function less":   func(s *impl.Ideal) { s.Functions = s.Functions[:2] },
		"a mailbox less":    func(s *impl.Ideal) { s.Boxes = s.Boxes[:2] },
		"a mailbox":         func(s *impl.Ideal) { s.Boxes[1].Done = -1 },
		"equal stations":    func(s *impl.Ideal) { s.Boxes[1].Filter.Mac, s.Softs[1].Filter.Mac = 2, 2 },
		"a host":            func(s *impl.Ideal) { s.Softs[2].Queues = 0 },
		"another Mac":       func(s *impl.Ideal) { s.Softs[0].Filter.Mac = 3 },
		"other VLANs":       func(s *impl.Ideal) { s.Boxes[0].Filter.Vlans = nil },
		"promiscuous":       func(s *impl.Ideal) { s.Softs[2].Filter.Promiscuous = false },
		"a bucket":          func(s *impl.Ideal) { s.Functions[0].Bucket.Tokens = -1 },
		"other domains":     func(s *impl.Ideal) { s.Functions[0].Domain, s.Functions[1].Domain = 1, 0 },
		"other ports":       func(s *impl.Ideal) { s.Functions[0].Port, s.Functions[1].Port = 2, 1 },
		"a port":            func(s *impl.Ideal) { s.Functions[2].Port = 4 },
		"another steering":  func(s *impl.Ideal) { s.Softs[1].Steering.Spread.Table = nil },
		"a count that ends": func(s *impl.Ideal) { s.Functions[1].Refused = 1000000000001 },
	}
	list := map[string]impl.Ideal{"zero": {}}
	for name, change := range changes {
		s := copyOf(busyIdeal(t))
		change(&s)
		list[name] = s
	}
	return list
}

func TestIdealOk(t *testing.T) {
	for name, s := range badIdeals(t) {
		if impl.IdealOk(s) {
			t.Errorf("an invalid world is accepted: %s", name)
		}
	}
	checkPure(t, impl.IdealOk, busyIdeal(t))
}

func TestIdealOf(t *testing.T) {
	two, _ := impl.NewCard(cardBoxes()[:2], oneQueue(), true, impl.Bucket{}, bootable(), 0)
	for _, c := range []impl.Card{newCard(t, false), busyCard(t), sendingCard(t, 4), two} {
		want := impl.Ideal{Queues: make([][]string, len(c.Hosts)), Functions: c.Functions, Boxes: c.Boxes, Uplink: c.Uplink}
		for _, h := range c.Hosts {
			want.Softs = append(want.Softs, impl.SoftOf(h))
		}
		if got := impl.IdealOf(c); !same(got, want) || !impl.IdealOk(got) {
			t.Errorf("got %+v", got)
		}
		checkPure(t, impl.IdealOf, c)
	}
	for name, c := range badCards(t) {
		if got := impl.IdealOf(c); !same(got, impl.Ideal{}) {
			t.Errorf("an invalid card, %s: got %+v", name, got)
		}
	}
}

// idealSwitchModel is IdealSwitch as the document says it.
func idealSwitchModel(s impl.Ideal, from int, p impl.Packet) impl.Ideal {
	if !impl.IdealOk(s) || !impl.PacketOk(p) {
		return s
	}
	s.Softs = slices.Clone(s.Softs)
	list, _ := portsModel(s.Boxes)
	vlan := impl.EntryVlan(list, from, p)
	for _, to := range impl.SwitchPacket(list, from, p) {
		f := frame(impl.LeavePacket(list, to, vlan, p))
		if to == 0 {
			s.Uplink = append(slices.Clone(s.Uplink), f)
		} else {
			s.Softs[to-1] = impl.SoftReceive(s.Softs[to-1], f)
		}
	}
	return s
}

func TestIdealSwitch(t *testing.T) {
	for _, s := range []impl.Ideal{impl.IdealOf(newCard(t, true)), busyIdeal(t)} {
		for _, from := range []int{-1, 0, 1, 2, 3, 4, far[0], far[9]} {
			for _, p := range cardPackets() {
				if got, want := impl.IdealSwitch(s, from, p), idealSwitchModel(s, from, p); !same(got, want) {
					t.Errorf("%+v at port %d: got %+v", p, from, got)
				}
			}
		}
		checkPure(t, impl.IdealSwitch, s, 1, between(2, most48, -1, udp("x")))
	}
	got := impl.IdealSwitch(impl.IdealOf(newCard(t, true)), 1, between(2, most48, 5, udp("for all")))
	if !slices.Equal(got.Uplink, []string{frame(between(2, most48, 5, udp("for all")))}) || len(got.Softs[0].Streams) != 0 || len(got.Softs[1].Streams) != 1 || len(got.Softs[2].Streams) != 0 {
		t.Errorf("a packet for all: got %+v", got)
	}
	for name, bad := range badIdeals(t) {
		if got := impl.IdealSwitch(bad, 0, between(99, 2, -1, udp("x"))); !same(got, bad) {
			t.Errorf("an invalid world switches: %s", name)
		}
	}
}

// idealActModel is DoIdeal as the document says it.
func idealActModel(s impl.Ideal, a impl.CardAct, number int) impl.Ideal {
	if !impl.IdealOk(s) || !impl.ActOk(a.Act) || a.Function < 0 || a.Function >= len(s.Functions) || a.Kind < 0 || a.Kind > 2 || a.Part < 0 || a.Part > 100 {
		return s
	}
	k := a.Function
	s = copyOf(s)
	if a.Kind == 2 {
		s.Queues = make([][]string, len(s.Queues))
		return s
	}
	if a.Kind == 1 {
		old := s.Boxes[k]
		box, _ := impl.HandleMessage(old, a.Message)
		s.Boxes[k] = box
		if _, ok := portsModel(s.Boxes); !ok {
			s.Boxes[k] = impl.Mailbox{Filter: old.Filter, Last: a.Message.Seq, Done: old.Done + 1}
		}
		s.Softs[k].Filter = s.Boxes[k].Filter
		return s
	}
	switch a.Act.Kind {
	case impl.ActSend:
		if number == 1 {
			s.Queues[k] = append(s.Queues[k], impl.SendFrames(a.Act.Packet, a.Act.Size)...)
		}
	case impl.ActTransmit:
		frames := s.Queues[k]
		s.Queues[k] = nil
		list, _ := portsModel(s.Boxes)
		for _, f := range frames {
			p, _ := impl.ReadFrame(f)
			var ok bool
			if s.Functions, _, ok = impl.SendFrom(s.Functions, list, k, p); ok {
				s = idealSwitchModel(s, k+1, p)
			}
		}
	case impl.ActReceive:
		if p, code := impl.ReadFrame(a.Act.Frame); code == impl.FrameFine {
			s = idealSwitchModel(s, 0, p)
		}
	case impl.ActTick:
		s.Functions = impl.TickFunctions(s.Functions, 1)
	case impl.ActReset:
		s.Queues[k] = nil
	}
	return s
}

func TestDoIdeal(t *testing.T) {
	off := copyOf(busyIdeal(t))
	off.Functions[0].Enabled = false
	for i, s := range []impl.Ideal{impl.IdealOf(newCard(t, true)), busyIdeal(t), off} {
		for _, a := range cardActs() {
			for _, number := range append([]int{-1, 0, 1, 2}, far[0], far[9]) {
				if got, want := impl.DoIdeal(s, a, number), idealActModel(s, a, number); !same(got, want) {
					t.Errorf("world %d, %+v with the number %d: got %+v, want %+v", i, a, number, got, want)
				}
			}
			checkPure(t, impl.DoIdeal, s, a, 1)
		}
		for _, a := range badCardActs() {
			if got := impl.DoIdeal(s, a, 1); !same(got, s) {
				t.Errorf("world %d, the invalid act %+v: got %+v", i, a, got)
			}
		}
		checkPure(t, impl.DoIdeal, s, badCardActs()[0], 1)
	}
	// Of the frames that wait, one is foreign and one is none; the third one reaches a station, and all in a VLAN.
	s := busyIdeal(t)
	got := impl.DoIdeal(s, impl.CardAct{Act: impl.Act{Kind: impl.ActTransmit}}, 0)
	if f, before := got.Functions[0], s.Functions[0]; len(got.Queues[0]) != 0 || len(got.Queues[2]) != 1 || f.Sent != before.Sent+2 || f.Refused != before.Refused+1 || len(got.Uplink) != len(s.Uplink)+1 {
		t.Errorf("transmitting: got %+v, %v, %d frames at the uplink", f, got.Queues, len(got.Uplink))
	}
	for name, bad := range badIdeals(t) {
		for _, a := range cardActs() {
			if got := impl.DoIdeal(bad, a, 1); !same(got, bad) {
				t.Errorf("an invalid world acts: %s", name)
			}
		}
	}
	// When a count has come to its end, the packet is counted, but goes nowhere.
	most := busyIdeal(t)
	most.Functions[0].Sent = 1000000000000
	got = impl.DoIdeal(most, impl.CardAct{Act: impl.Act{Kind: impl.ActTransmit}}, 0)
	if !same(got, idealActModel(most, impl.CardAct{Act: impl.Act{Kind: impl.ActTransmit}}, 0)) || got.Functions[0].Sent != 1000000000001 || len(got.Uplink) != len(most.Uplink) {
		t.Errorf("as many packets as possible: got %+v", got.Functions)
	}
}

func TestRunIdeal(t *testing.T) {
	for seed := range uint64(12) {
		r := newRandom(seed)
		list := cardRun(seed, 40)
		s := busyIdeal(t)
		var numbers []int
		for range list {
			numbers = append(numbers, int(r.UintN(3)))
		}
		for _, n := range []int{0, 1, 39, 40} {
			want := s
			for i, a := range list[:n] {
				want = idealActModel(want, a, numbers[i])
			}
			if got := impl.RunIdeal(s, list[:n], numbers[:n]); !same(got, want) {
				t.Errorf("seed %d: %d acts give another world", seed, n)
			}
		}
		checkPure(t, impl.RunIdeal, s, list[:8], numbers[:8])
		long, more := slices.Concat(list, list), slices.Concat(numbers, numbers)
		for _, c := range [][2]int{{41, 41}, {80, 80}, {5, 4}, {4, 5}, {0, 1}, {1, 0}} {
			if got := impl.RunIdeal(s, long[:c[0]], more[:c[1]]); !same(got, s) {
				t.Errorf("%d acts and %d numbers are performed", c[0], c[1])
			}
		}
		checkPure(t, impl.RunIdeal, s, long[:41], more[:41])
	}
	for name, bad := range badIdeals(t) {
		if got := impl.RunIdeal(bad, cardActs()[:5], []int{1, 1, 1, 1, 1}); !same(got, bad) {
			t.Errorf("an invalid world runs: %s", name)
		}
	}
}

func TestCardDropped(t *testing.T) {
	c := copyOf(busyCard(t))
	for k := range c.Hosts {
		c.Hosts[k].Rx[0].Dropped = 3 + 10*k
	}
	if got := impl.CardDropped(c); got != 39 {
		t.Errorf("got %d", got)
	}
	c.Hosts[1].Rx = append(c.Hosts[1].Rx, impl.RxQueue{Dropped: 100})
	if got := impl.CardDropped(impl.Card{Hosts: c.Hosts}); got != 139 || impl.CardDropped(impl.Card{}) != 0 {
		t.Errorf("an invalid card: got %d", got)
	}
}

func TestSameWorld(t *testing.T) {
	c := impl.CalmCard(busyCard(t), 4, 10)
	s := impl.IdealOf(c)
	if !impl.SameWorld(c, s) {
		t.Fatal("a card and its ideal world differ")
	}
	worlds := map[string]func(*impl.Ideal){
		"tokens": func(s *impl.Ideal) { s.Functions[1].Bucket.Tokens-- }, "a count": func(s *impl.Ideal) { s.Functions[0].Sent++ }, "enabled": func(s *impl.Ideal) { s.Functions[2].Enabled = false },
		"a frame": func(s *impl.Ideal) { s.Uplink[0] += "x" }, "a frame less": func(s *impl.Ideal) { s.Uplink = s.Uplink[:1] }, "a frame more": func(s *impl.Ideal) { s.Uplink = append(s.Uplink, "x") },
		"the order of frames": func(s *impl.Ideal) { slices.Reverse(s.Uplink) }, "data": func(s *impl.Ideal) { s.Softs[2].Streams[0].Data += "x" }, "a stream": func(s *impl.Ideal) { s.Softs[0].Streams = []impl.Stream{{}} },
	}
	c.Uplink = append(slices.Clone(c.Uplink), "one more")
	s = impl.IdealOf(c)
	for name, change := range worlds {
		other := copyOf(s)
		change(&other)
		if !impl.IdealOk(other) || impl.SameWorld(c, other) {
			t.Errorf("%s: the worlds are the same", name)
		}
		checkPure(t, impl.SameWorld, c, other)
	}
	// What waits, what was sent, the mailboxes and the rest of the card do not matter.
	other := copyOf(s)
	other.Queues[0], other.Softs[1].Sent, other.Boxes[1].Done = []string{"x"}, []string{"y"}, 99
	clock := c
	clock.Clock.Time, clock.Stamps = 12345, nil
	if !impl.SameWorld(c, other) || !impl.SameWorld(clock, s) {
		t.Error("the worlds differ")
	}
	invalid := []impl.Card{copyOf(c), copyOf(c), copyOf(c)}
	invalid[0].Clock.Rate, invalid[1].Flash.Banks, invalid[2].Hosts[1].Counters.Bad = -1, nil, -1
	for i, bad := range invalid {
		if impl.SameWorld(bad, s) {
			t.Errorf("the invalid card %d is in the same world", i)
		}
	}
	two, _ := impl.NewCard(cardBoxes()[:2], oneQueue(), true, impl.Bucket{}, bootable(), 0)
	if impl.SameWorld(two, s) || impl.SameWorld(c, impl.IdealOf(two)) || !impl.SameWorld(two, impl.IdealOf(two)) {
		t.Error("worlds with other numbers of functions are the same")
	}
	for name, bad := range badCards(t) {
		if impl.SameWorld(bad, s) || impl.SameWorld(bad, impl.IdealOf(bad)) {
			t.Errorf("an invalid card is in the same world: %s", name)
		}
	}
	for name, bad := range badIdeals(t) {
		if impl.SameWorld(c, bad) || impl.SameWorld(busyCard(t), bad) {
			t.Errorf("an invalid world is the same: %s", name)
		}
	}
}

// TestTheCardIsLikeTheIdealWorld is the main theorem: whatever hosts do through one card, it is as in the ideal world.
func TestTheCardIsLikeTheIdealWorld(t *testing.T) {
	clean, frames, bytes, commands, sent, refused := 0, 0, 0, 0, 0, 0
	for seed := range uint64(250) {
		r := newRandom(seed)
		c := newCard(t, seed%2 == 0)
		if seed%7 == 0 {
			c.Functions[r.UintN(3)].Enabled = false
		}
		s := impl.IdealOf(c)
		list := cardRun(seed, 40)
		if seed%3 > 0 {
			// Hosts that look often drop little.
			var eager []impl.CardAct
			for _, a := range list[:8] {
				eager = append(eager, a, impl.CardAct{Act: impl.Act{Kind: impl.ActTick}})
				for k := range 3 {
					eager = append(eager, impl.CardAct{Function: k, Act: impl.Act{Kind: impl.ActService, Budget: 1 + int(r.UintN(4))}})
				}
			}
			list = eager
		}
		after, numbers := impl.RunCard(c, list)
		world := impl.RunIdeal(s, list, numbers)
		calm := impl.CalmCard(after, 4, 100)
		if !slices.Equal(calm.Uplink, world.Uplink) || !slices.Equal(calm.Functions, world.Functions) || !same(calm.Boxes, world.Boxes) {
			t.Fatalf("seed %d: %d frames at the uplink, ideally %d; %+v, ideally %+v", seed, len(calm.Uplink), len(world.Uplink), calm.Functions, world.Functions)
		}
		// The answers are those of mailboxes alone.
		boxes := impl.IdealOf(c)
		for i, a := range list {
			if a.Kind != impl.CardCommand || numbers[i] == -1 {
				continue
			}
			boxes = impl.DoIdeal(boxes, a, numbers[i])
			if numbers[i] != boxes.Boxes[a.Function].Answer {
				t.Fatalf("seed %d: the answer to %+v is %d", seed, a.Message, numbers[i])
			}
			commands++
		}
		frames += len(world.Uplink)
		for _, f := range world.Functions {
			sent, refused = sent+f.Sent, refused+f.Refused
		}
		if impl.CardDropped(calm) > 0 {
			continue
		}
		if !impl.SameWorld(calm, world) {
			t.Fatalf("seed %d: the streams differ from those of the ideal world", seed)
		}
		clean++
		for _, x := range world.Softs {
			for _, stream := range x.Streams {
				bytes += len(stream.Data)
			}
		}
	}
	if clean < 80 || frames < 100 || bytes < 5000 || commands < 50 || sent < 200 || refused < 50 {
		t.Errorf("%d runs dropped nothing; %d frames, %d bytes, %d commands, %d packets sent, %d refused", clean, frames, bytes, commands, sent, refused)
	}
}
