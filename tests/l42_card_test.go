package tests

import (
	"slices"
	"strings"
	"testing"

	"loop.example/g03312/impl"
)

// cardBoxes are the mailboxes of three stations, two of which are in the VLAN 5.
func cardBoxes() []impl.Mailbox {
	return []impl.Mailbox{
		{Filter: impl.Filter{Mac: 2, Vlans: []int{5}}}, {Filter: impl.Filter{Mac: 4, Vlans: []int{0, 5, 9}}, Last: 7, Answer: 1, Done: 3}, {Filter: impl.Filter{Mac: 6, Promiscuous: true}},
	}
}

// oneQueue is a steering for one queue, in which one port is dropped.
func oneQueue() impl.Steering {
	return impl.Steering{
		Rules: []impl.Rule{{FirstPort: 7, LastPort: 7, Vlan: -2, Action: impl.RuleDrop}}, Table: impl.NewTable(), Spread: impl.Spread{Key: rssKey, Table: []int{0}},
	}
}

// bootable is a memory with one version.
func bootable() impl.Flash {
	s, _ := impl.MakeImage(5, "boot")
	return impl.Flash{Banks: []string{strings.Repeat("\xff", 96), s + strings.Repeat("\xff", 96-len(s))}}
}

// newCard is a new card with three functions.
func newCard(t testing.TB, coalesce bool) impl.Card {
	t.Helper()
	c, ok := impl.NewCard(cardBoxes(), oneQueue(), coalesce, impl.Bucket{Rate: 100, Burst: 900, Tokens: 700}, bootable(), 3*unit/2)
	if !ok {
		t.Fatal("there is no card")
	}
	return c
}

// between is a packet of a station for another one.
func between(src int, dst int, vlan int, p impl.Packet) impl.Packet {
	p.SrcMac, p.DstMac, p.Vlan = src, dst, vlan
	return p
}

// busyCard is a card in the middle of its work.
func busyCard(t testing.TB) impl.Card {
	t.Helper()
	c := newCard(t, true)
	c.Uplink, c.Stamps = []string{"before"}, []int{0}
	for k, p := range []impl.Packet{between(2, 4, -1, tcp("to 4")), between(4, most48, 5, udp("to all")), between(6, 99, -1, tcp(text(150)))} {
		c.Hosts[k], _ = impl.HostSend(c.Hosts[k], p, 100, 128)
	}
	c = impl.CardTransmit(c, 0)
	c = impl.CardReceive(c, frame(between(99, 6, -1, udp("from beyond"))))
	c, _ = impl.DoCard(c, impl.CardAct{Act: impl.Act{Kind: impl.ActTick}})
	if !impl.CardOk(c) {
		t.Fatal("the busy card is not valid")
	}
	return c
}

// badCards are cards that are not valid.
func badCards(t testing.TB) map[string]impl.Card {
	changes := map[string]func(*impl.Card){
		"no functions":      func(c *impl.Card) { c.Hosts, c.Functions, c.Boxes = nil, nil, nil },
		"a host less":       func(c *impl.Card) { c.Hosts = c.Hosts[:2] },
		"a host more":       func(c *impl.Card) { c.Hosts = append(c.Hosts, c.Hosts[0]) },
		"a function less":   func(c *impl.Card) { c.Functions = c.Functions[:2] },
		"a mailbox less":    func(c *impl.Card) { c.Boxes = c.Boxes[:2] },
		"a mailbox more":    func(c *impl.Card) { c.Boxes = append(c.Boxes, impl.Mailbox{Filter: impl.Filter{Mac: 50}}) },
		"a mailbox":         func(c *impl.Card) { c.Boxes[1].Last = -1 },
		"equal stations":    func(c *impl.Card) { c.Boxes[1].Filter.Mac, c.Hosts[1].Filter.Mac = 2, 2 },
		"a host":            func(c *impl.Card) { c.Hosts[2].Counters.Bad = -1 },
		"another Mac":       func(c *impl.Card) { c.Hosts[0].Filter.Mac = 3 },
		"other VLANs":       func(c *impl.Card) { c.Boxes[0].Filter.Vlans = nil },
		"promiscuous":       func(c *impl.Card) { c.Boxes[0].Filter.Promiscuous = true },
		"a bucket":          func(c *impl.Card) { c.Functions[0].Bucket.Tokens = 901 },
		"a count":           func(c *impl.Card) { c.Functions[1].Sent = -1 },
		"other domains":     func(c *impl.Card) { c.Functions[0].Domain, c.Functions[1].Domain = 1, 0 },
		"other ports":       func(c *impl.Card) { c.Functions[0].Port, c.Functions[1].Port = 2, 1 },
		"a domain":          func(c *impl.Card) { c.Functions[2].Domain = 3 },
		"flash":             func(c *impl.Card) { c.Flash.Banks[1] = text(96) },
		"no banks":          func(c *impl.Card) { c.Flash.Banks = nil },
		"a clock":           func(c *impl.Card) { c.Clock.Rate = -1 },
		"the time of clock": func(c *impl.Card) { c.Clock.Time = mostTime + 1 },
	}
	list := map[string]impl.Card{"zero": {}}
	for name, change := range changes {
		c := copyOf(busyCard(t))
		change(&c)
		list[name] = c
	}
	return list
}

// portsModel is PortsOf as the document says it.
func portsModel(boxes []impl.Mailbox) ([]impl.Port, bool) {
	if len(boxes) < 1 || len(boxes) > 3 {
		return nil, false
	}
	has := func(vlan int, boxes ...impl.Mailbox) bool {
		return vlan == 0 || slices.ContainsFunc(boxes, func(b impl.Mailbox) bool { return slices.Contains(b.Filter.Vlans, vlan) })
	}
	list := make([]impl.Port, len(boxes)+1)
	for k, b := range boxes {
		if !impl.MailboxOk(b) {
			return nil, false
		}
		list[k+1] = impl.Port{Mac: b.Filter.Mac, Strict: true}
	}
	for vlan := range 4096 {
		if has(vlan, boxes...) {
			list[0].Vlans = append(list[0].Vlans, vlan)
		}
		for k, b := range boxes {
			if has(vlan, b) {
				list[k+1].Vlans = append(list[k+1].Vlans, vlan)
			}
		}
	}
	if !impl.PortsOk(list) {
		return nil, false
	}
	return list, true
}

// manyVlans are as many VLANs from the given one on.
func manyVlans(from int, n int) []int {
	var list []int
	for k := range n {
		list = append(list, from+k)
	}
	return list
}

func TestPortsOf(t *testing.T) {
	if impl.MaxFunctions != 3 || impl.CardHost != 0 || impl.CardCommand != 1 || impl.CardUpdate != 2 {
		t.Error("other constants")
	}
	with := func(lists ...[]int) []impl.Mailbox {
		var boxes []impl.Mailbox
		for k, vlans := range lists {
			boxes = append(boxes, impl.Mailbox{Filter: impl.Filter{Mac: 10 - k, Vlans: vlans}})
		}
		return boxes
	}
	cases := []struct {
		boxes []impl.Mailbox
		want  bool
	}{
		{nil, false}, {with(nil), true}, {with(nil, nil, nil), true}, {with(nil, nil, nil, nil), false}, {cardBoxes(), true},
		{with(manyVlans(1, 7)), true}, {with(manyVlans(0, 8)), true}, {with(manyVlans(1, 8)), false}, {with(manyVlans(1, 4), manyVlans(5, 3)), true}, {with(manyVlans(1, 4), manyVlans(5, 4)), false},
		{with(manyVlans(1, 4), manyVlans(4, 4), []int{0, 2, 6}), true}, {with(manyVlans(3, 4), nil, []int{1, 2, 4095}), true}, {with(nil, manyVlans(3, 7), []int{4095}), false},
		{append(with(nil), with(nil)...), false}, {append(cardBoxes()[:2], impl.Mailbox{Filter: impl.Filter{Mac: 0}}), true},
	}
	for i, c := range cases {
		want, can := portsModel(c.boxes)
		got, ok := impl.PortsOf(c.boxes)
		if ok != c.want || can != c.want || !same(got, want) {
			t.Errorf("case %d: got %+v, %v, want %+v", i, got, ok, want)
		}
		checkPure(t, impl.PortsOf, c.boxes)
	}
	for _, b := range badBoxes() {
		for k := range 3 {
			boxes := cardBoxes()
			boxes[k] = b
			if got, ok := impl.PortsOf(boxes); ok || got != nil {
				t.Errorf("an invalid mailbox: got %+v", got)
			}
		}
	}
	got, _ := impl.PortsOf(cardBoxes())
	want := []impl.Port{{Vlans: []int{0, 5, 9}}, {Mac: 2, Vlans: []int{0, 5}, Strict: true}, {Mac: 4, Vlans: []int{0, 5, 9}, Strict: true}, {Mac: 6, Vlans: []int{0}, Strict: true}}
	if !same(got, want) {
		t.Errorf("got %+v", got)
	}
}

func TestNewCard(t *testing.T) {
	b := impl.Bucket{Rate: 10, Burst: 100, Tokens: 50}
	for n := 1; n <= 3; n++ {
		want := impl.Card{Boxes: cardBoxes()[:n], Flash: bootable(), Clock: impl.Clock{Rate: 7}}
		for k, box := range want.Boxes {
			h, _ := impl.NewHost(1, box.Filter, oneQueue(), n == 2, 1, 2)
			want.Hosts = append(want.Hosts, h)
			want.Functions = append(want.Functions, impl.VirtualFunction{Domain: k, Port: k + 1, Bucket: b, Enabled: true})
		}
		got, ok := impl.NewCard(cardBoxes()[:n], oneQueue(), n == 2, b, bootable(), 7)
		if !ok || !same(got, want) || !impl.CardOk(got) {
			t.Errorf("%d functions: got %+v", n, got.Functions)
		}
		checkPure(t, impl.NewCard, cardBoxes()[:n], oneQueue(), true, b, bootable(), 7)
	}
	refuse := func(name string, boxes []impl.Mailbox, s impl.Steering, b impl.Bucket, f impl.Flash, rate int) {
		t.Helper()
		if got, ok := impl.NewCard(boxes, s, true, b, f, rate); ok || !same(got, impl.Card{}) {
			t.Errorf("%s: got %+v", name, got.Functions)
		}
	}
	refuse("no functions", nil, oneQueue(), b, bootable(), 7)
	refuse("four functions", append(cardBoxes(), impl.Mailbox{}), oneQueue(), b, bootable(), 7)
	refuse("equal stations", append(cardBoxes()[:1], cardBoxes()[0]), oneQueue(), b, bootable(), 7)
	refuse("a bad mailbox", badBoxes()[:1], oneQueue(), b, bootable(), 7)
	refuse("many functions", slices.Repeat(cardBoxes(), 100000), oneQueue(), b, bootable(), 7)
	for _, s := range append(invalidSteerings(), steering(), hostSteering()) {
		refuse("a bad steering", cardBoxes(), s, b, bootable(), 7)
	}
	for _, bad := range badBuckets() {
		refuse("a bad bucket", cardBoxes(), oneQueue(), bad, bootable(), 7)
	}
	for _, f := range append(badFlashes(t), impl.Flash{Banks: []string{text(96), text(96)}}) {
		refuse("a card that does not boot", cardBoxes(), oneQueue(), b, f, 7)
	}
	for _, rate := range append([]int{-1, 64*unit + 1}, far...) {
		refuse("another rate", cardBoxes(), oneQueue(), b, bootable(), rate)
	}
	for _, rate := range []int{0, 64 * unit} {
		if _, ok := impl.NewCard(cardBoxes(), oneQueue(), true, b, bootable(), rate); !ok {
			t.Errorf("the rate %d is refused", rate)
		}
	}
}

func TestCardOk(t *testing.T) {
	for name, c := range badCards(t) {
		if impl.CardOk(c) {
			t.Errorf("an invalid card is accepted: %s", name)
		}
	}
	c := copyOf(busyCard(t))
	c.Functions[0].Enabled, c.Stamps, c.Uplink, c.Boxes[0].Filter.Vlans = false, []int{-5}, []string{"x"}, append([]int{}, c.Boxes[0].Filter.Vlans...)
	if !impl.CardOk(c) {
		t.Error("a valid card is refused")
	}
	checkPure(t, impl.CardOk, c)
}

// cardSwitchModel is CardSwitch as the document says it.
func cardSwitchModel(c impl.Card, from int, p impl.Packet) impl.Card {
	if !impl.CardOk(c) || !impl.PacketOk(p) {
		return c
	}
	c.Hosts = slices.Clone(c.Hosts)
	list, _ := portsModel(c.Boxes)
	vlan := impl.EntryVlan(list, from, p)
	for _, to := range impl.SwitchPacket(list, from, p) {
		s := frame(impl.LeavePacket(list, to, vlan, p))
		if to == 0 {
			c.Uplink = append(slices.Clone(c.Uplink), s)
		} else {
			c.Hosts[to-1] = impl.HostReceive(c.Hosts[to-1], s)
		}
	}
	return c
}

// cardPackets are packets between stations of a card and others.
func cardPackets() []impl.Packet {
	list := []impl.Packet{{}, tcp(text(129)), udp(text(129))}
	for _, src := range []int{2, 4, 6, 99} {
		for _, dst := range []int{2, 4, 6, 99, most48} {
			for _, vlan := range []int{-1, 0, 5, 9, 8} {
				list = append(list, between(src, dst, vlan, udp("x")))
			}
		}
		list = append(list, between(src, 4, -1, tcp("data")), between(src, most48, -1, tcp(text(129))))
		dropped := between(src, most48, -1, udp("dropped"))
		dropped.Seg.DstPort = 7
		list = append(list, dropped)
	}
	return list
}

func TestCardSwitch(t *testing.T) {
	for _, c := range []impl.Card{newCard(t, false), busyCard(t)} {
		for _, from := range []int{-1, 0, 1, 2, 3, 4, far[0], far[9]} {
			for _, p := range cardPackets() {
				if got, want := impl.CardSwitch(c, from, p), cardSwitchModel(c, from, p); !same(got, want) {
					t.Errorf("%+v at port %d: got %d frames at the uplink", p, from, len(got.Uplink))
				}
			}
		}
		checkPure(t, impl.CardSwitch, c, 1, between(2, most48, -1, udp("x")))
	}
	got := impl.CardSwitch(newCard(t, false), 1, between(2, most48, 5, udp("for all")))
	taken := []int{got.Hosts[0].Counters.Taken, got.Hosts[1].Counters.Taken, got.Hosts[2].Counters.Frames}
	if !slices.Equal(got.Uplink, []string{frame(between(2, most48, 5, udp("for all")))}) || !slices.Equal(taken, []int{0, 1, 0}) {
		t.Errorf("a packet for all: got %d frames at the uplink, %v", len(got.Uplink), taken)
	}
	for name, bad := range badCards(t) {
		if got := impl.CardSwitch(bad, 0, between(99, 2, -1, udp("x"))); !same(got, bad) {
			t.Errorf("an invalid card switches: %s", name)
		}
	}
}

// cardTransmitModel is CardTransmit as the document says it.
func cardTransmitModel(c impl.Card, k int) impl.Card {
	if !impl.CardOk(c) || k < 0 || k >= len(c.Hosts) {
		return c
	}
	before := len(c.Hosts[k].Wire)
	c.Hosts = slices.Clone(c.Hosts)
	c.Hosts[k] = impl.HostTransmit(c.Hosts[k])
	list, _ := portsModel(c.Boxes)
	for _, s := range c.Hosts[k].Wire[before:] {
		p, _ := impl.ReadFrame(s)
		var ok bool
		if c.Functions, _, ok = impl.SendFrom(c.Functions, list, k, p); ok {
			c = cardSwitchModel(c, k+1, p)
		}
	}
	return c
}

// sendingCard is a card with packets that wait in all its hosts.
func sendingCard(t testing.TB, seed uint64) impl.Card {
	r := newRandom(seed)
	c := busyCard(t)
	for k := range c.Hosts {
		for range r.UintN(3) {
			src := []int{2, 4, 6}[k]
			if r.UintN(4) == 0 {
				src = 99
			}
			p := between(src, []int{2, 4, 6, 99, most48}[r.UintN(5)], []int{-1, 5, 9}[r.UintN(3)], tcp(randomText(r, int(r.UintN(300)))))
			c.Hosts[k], _ = impl.HostSend(c.Hosts[k], p, 1+int(r.UintN(128)), 128)
		}
	}
	return c
}

func TestCardTransmit(t *testing.T) {
	sent, refused := 0, 0
	for seed := range uint64(40) {
		c := sendingCard(t, seed)
		if seed%8 == 0 {
			c.Functions[1].Enabled = false
		}
		for _, k := range []int{-1, 0, 1, 2, 3, far[0], far[9]} {
			want, got := cardTransmitModel(c, k), impl.CardTransmit(c, k)
			if !same(got, want) {
				t.Errorf("seed %d: function %d: got %+v, want %+v", seed, k, got.Functions, want.Functions)
			}
			if k >= 0 && k < 3 {
				c = got
				sent, refused = sent+got.Functions[k].Sent, refused+got.Functions[k].Refused
			}
		}
	}
	if sent < 100 || refused < 100 {
		t.Errorf("%d packets were sent, %d refused", sent, refused)
	}
	checkPure(t, impl.CardTransmit, busyCard(t), 1)
	checkPure(t, impl.CardTransmit, busyCard(t), 3)
	for name, bad := range badCards(t) {
		for k := range 3 {
			if got := impl.CardTransmit(bad, k); !same(got, bad) {
				t.Errorf("an invalid card transmits: %s", name)
			}
		}
	}
	// When a count has come to its end, the packet is counted, but goes nowhere.
	most := busyCard(t)
	most.Functions[1].Sent = 1000000000000
	if got := impl.CardTransmit(most, 1); got.Functions[1].Sent != 1000000000001 || len(got.Uplink) != len(most.Uplink) || impl.CardOk(got) {
		t.Errorf("as many packets as possible: got %+v", got.Functions)
	}
}

func TestCardReceive(t *testing.T) {
	image, _ := impl.BuildImage(tcp(text(200)))
	for _, c := range []impl.Card{newCard(t, false), busyCard(t)} {
		frames := []string{"", "x", impl.WithFcs(image), flip(frame(udp("x")), 99)}
		for _, p := range cardPackets()[3:] {
			frames = append(frames, frame(p))
		}
		for _, s := range frames {
			want := c
			want.Stamps = append(slices.Clone(c.Stamps), c.Clock.Time)
			if p, code := impl.ReadFrame(s); code == impl.FrameFine {
				want = cardSwitchModel(want, 0, p)
			}
			if got := impl.CardReceive(c, s); !same(got, want) {
				t.Errorf("the frame %q: got %v, %d frames at the uplink", s, got.Stamps, len(got.Uplink))
			}
		}
		checkPure(t, impl.CardReceive, c, frame(between(99, most48, -1, udp("x"))))
		checkPure(t, impl.CardReceive, c, "x")
	}
	for name, bad := range badCards(t) {
		if got := impl.CardReceive(bad, "x"); !same(got, bad) {
			t.Errorf("an invalid card receives: %s", name)
		}
	}
}

// commandModel is CardCommandTo as the document says it.
func commandModel(c impl.Card, k int, x impl.Message) (impl.Card, int) {
	if !impl.CardOk(c) || k < 0 || k >= len(c.Boxes) {
		return c, -1
	}
	c = copyOf(c)
	old := c.Boxes[k]
	box, answer := impl.HandleMessage(old, x)
	c.Boxes[k] = box
	if _, ok := portsModel(c.Boxes); ok {
		c.Hosts[k].Filter = box.Filter
		return c, answer
	}
	old.Last, old.Answer, old.Done = x.Seq, 0, old.Done+1
	c.Boxes[k] = old
	return c, 0
}

func TestCardCommandTo(t *testing.T) {
	full := copyOf(busyCard(t))
	for k := range full.Hosts {
		full.Boxes[k].Filter.Vlans = manyVlans(3*k, 3)
		full.Hosts[k].Filter.Vlans = manyVlans(3*k, 3)
	}
	full.Boxes[2].Filter.Vlans, full.Hosts[2].Filter.Vlans = []int{6, 7}, []int{6, 7}
	last := copyOf(busyCard(t))
	last.Boxes[1].Last, last.Boxes[0].Done = 1000000000000, 1000000000000
	answers := map[int]int{}
	for _, c := range []impl.Card{busyCard(t), full, last} {
		if !impl.CardOk(c) {
			t.Fatal("a card is not valid")
		}
		for _, k := range []int{-1, 0, 1, 2, 3, far[0], far[9]} {
			for _, seq := range []int{-1, 0, 1, 7, 8, 9, 1000000000000, 1000000000001} {
				for op := range 6 {
					for _, arg := range []int{-1, 0, 2, 4, 5, 8, 9, 55, 4095, most48} {
						x := impl.Message{Seq: seq, Op: op, Arg: arg}
						want, wantAnswer := commandModel(c, k, x)
						got, answer := impl.CardCommandTo(c, k, x)
						if !same(got, want) || answer != wantAnswer {
							t.Errorf("%+v to function %d: got %+v, %d, want %+v, %d", x, k, got.Boxes, answer, want.Boxes, wantAnswer)
						}
						answers[answer]++
					}
				}
			}
		}
	}
	if answers[-1] < 100 || answers[0] < 50 || answers[1] < 50 || answers[2] < 10 || answers[4] < 10 {
		t.Errorf("the answers are %v", answers)
	}
	c := busyCard(t)
	cases := []struct {
		name   string
		k      int
		x      impl.Message
		mac    int
		vlans  []int
		answer int
	}{
		{"another station", 0, impl.Message{Seq: 1, Op: 1, Arg: 8}, 8, []int{5}, 1}, {"the station of another function", 0, impl.Message{Seq: 1, Op: 1, Arg: 6}, 2, []int{5}, 0},
		{"its own station", 0, impl.Message{Seq: 1, Op: 1, Arg: 2}, 2, []int{5}, 1}, {"a VLAN", 0, impl.Message{Seq: 1, Op: 2, Arg: 3}, 2, []int{3, 5}, 1},
		{"a VLAN less", 0, impl.Message{Seq: 1, Op: 3, Arg: 5}, 2, nil, 1}, {"a question", 0, impl.Message{Seq: 1, Op: 4}, 2, []int{5}, 2}, {"a wrong Seq", 0, impl.Message{Seq: 2, Op: 1, Arg: 8}, 2, []int{5}, -1},
	}
	for _, x := range cases {
		got, answer := impl.CardCommandTo(c, x.k, x.x)
		f := impl.Filter{Mac: x.mac, Vlans: x.vlans}
		if answer != x.answer || !same(got.Boxes[x.k].Filter, f) || !same(got.Hosts[x.k].Filter, f) || got.Boxes[x.k].Done != boolInt(x.answer >= 0) {
			t.Errorf("%s: got %+v, %d", x.name, got.Boxes[x.k], answer)
		}
		// Once more, the answer is the same, and nothing changes.
		if again, once := impl.CardCommandTo(got, x.k, x.x); x.answer >= 0 && (once != answer || !same(again, got)) {
			t.Errorf("%s, again: got %+v, %d", x.name, again.Boxes[x.k], once)
		}
		checkPure(t, impl.CardCommandTo, c, x.k, x.x)
	}
	for name, bad := range badCards(t) {
		if got, answer := impl.CardCommandTo(bad, 0, impl.Message{Seq: 1}); !same(got, bad) || answer != -1 {
			t.Errorf("an invalid card is commanded: %s", name)
		}
	}
}

// cardActModel is DoCard as the document says it.
func cardActModel(c impl.Card, a impl.CardAct) (impl.Card, int) {
	if !impl.CardOk(c) || !impl.ActOk(a.Act) || a.Function < 0 || a.Function >= len(c.Functions) || a.Kind < 0 || a.Kind > 2 || a.Part < 0 || a.Part > 100 {
		return c, -1
	}
	if a.Kind == 1 {
		return commandModel(c, a.Function, a.Message)
	}
	next := copyOf(c)
	if a.Kind == 2 {
		next.Flash = impl.RunUpdate(c.Flash, impl.UpdateSteps(c.Flash, a.Image), a.Part, 3)
		for k, h := range c.Hosts {
			next.Hosts[k] = impl.HostReset(h)
		}
		return next, impl.BootVersion(next.Flash)
	}
	switch a.Act.Kind {
	case impl.ActTransmit:
		return cardTransmitModel(c, a.Function), 0
	case impl.ActReceive:
		return impl.CardReceive(c, a.Act.Frame), 0
	case impl.ActTick:
		for k, h := range c.Hosts {
			next.Hosts[k] = impl.HostTick(h)
		}
		next.Functions, next.Clock = impl.TickFunctions(c.Functions, 1), impl.AdvanceClock(c.Clock, 1)
		return next, 0
	}
	number := 0
	next.Hosts[a.Function], number = actModel(c.Hosts[a.Function], a.Act)
	return next, number
}

// cardActs are valid acts of all kinds.
func cardActs() []impl.CardAct {
	image, _ := impl.MakeImage(9, text(30))
	list := []impl.CardAct{
		{Kind: 1, Function: 1, Message: impl.Message{Seq: 8, Op: 1, Arg: 44}}, {Kind: 1, Message: impl.Message{Seq: 1, Op: 4}, Part: 100}, {Kind: 1, Function: 2, Message: impl.Message{Seq: 5}},
		{Kind: 2, Image: image, Part: 3}, {Kind: 2, Image: image, Part: 100}, {Kind: 2, Image: "no image", Function: 2}, {Kind: 2, Image: image, Act: impl.Act{Kind: impl.ActTick}, Part: 6},
	}
	for k := range 3 {
		for _, a := range acts() {
			list = append(list, impl.CardAct{Function: k, Act: a, Image: "not used", Message: impl.Message{Seq: 1}, Part: 33 * k})
		}
		send := impl.Act{Packet: between(2*k+2, 4, -1, udp("sent")), Size: 50, Cut: 128}
		list = append(list, impl.CardAct{Function: k, Act: send}, impl.CardAct{Function: k, Act: impl.Act{Kind: impl.ActReceive, Frame: frame(between(99, most48, 5, udp("abc")))}})
	}
	return list
}

// badCardActs are acts that no card with three functions performs.
func badCardActs() []impl.CardAct {
	var list []impl.CardAct
	for _, n := range append([]int{-1, 3, 4}, far...) {
		list = append(list, impl.CardAct{Kind: n}, impl.CardAct{Function: n}, impl.CardAct{Kind: 1, Function: n})
	}
	for _, n := range append([]int{-1, 101}, far...) {
		list = append(list, impl.CardAct{Part: n}, impl.CardAct{Kind: 2, Part: n}, impl.CardAct{Kind: 1, Part: n})
	}
	for kind := range 3 {
		list = append(list, impl.CardAct{Kind: kind, Act: impl.Act{Kind: 7}}, impl.CardAct{Kind: kind, Act: impl.Act{Budget: 1}})
	}
	return list
}

func TestDoCard(t *testing.T) {
	numbers := map[int]int{}
	for i, c := range []impl.Card{newCard(t, false), busyCard(t), sendingCard(t, 3), impl.CalmCard(busyCard(t), 1, 1)} {
		for _, a := range cardActs() {
			want, number := cardActModel(c, a)
			got, n := impl.DoCard(c, a)
			if !same(got, want) || n != number {
				t.Errorf("card %d, %+v: got %d, want %d", i, a, n, number)
			}
			numbers[n]++
			if i == 1 {
				checkPure(t, impl.DoCard, c, a)
			}
		}
		for _, a := range badCardActs() {
			if got, n := impl.DoCard(c, a); !same(got, c) || n != -1 {
				t.Errorf("card %d, the invalid act %+v: got %d", i, a, n)
			}
		}
	}
	for _, n := range []int{-1, 0, 1, 2, 5, 9} {
		if numbers[n] == 0 {
			t.Errorf("the numbers are %v", numbers)
		}
	}
	two, _ := impl.NewCard(cardBoxes()[:2], oneQueue(), true, impl.Bucket{}, bootable(), 0)
	if got, n := impl.DoCard(two, impl.CardAct{Function: 2}); n != -1 || !same(got, two) {
		t.Errorf("the third of two functions: got %d", n)
	}
	for name, bad := range badCards(t) {
		for _, a := range cardActs()[:9] {
			if got, n := impl.DoCard(bad, a); !same(got, bad) || n != -1 {
				t.Errorf("an invalid card acts: %s", name)
			}
		}
	}
	checkPure(t, impl.DoCard, busyCard(t), badCardActs()[0])
}

func TestCardUpdates(t *testing.T) {
	c := busyCard(t)
	image, _ := impl.MakeImage(9, text(30))
	// The image has six chunks, so that there are seven steps.
	for part := range 101 {
		got, version := impl.DoCard(c, impl.CardAct{Kind: 2, Image: image, Part: part})
		want := 5
		if part >= 7 {
			want = 9
		}
		if version != want || impl.BootVersion(got.Flash) != want || !impl.CardOk(got) {
			t.Errorf("after %d steps the version is %d", part, version)
		}
		for k, h := range got.Hosts {
			if !same(h, impl.HostReset(c.Hosts[k])) {
				t.Errorf("after %d steps host %d was not reset", part, k)
			}
		}
	}
	// Three bytes of the next step are written.
	got, _ := impl.DoCard(c, impl.CardAct{Kind: 2, Image: image, Part: 1})
	if bank := got.Flash.Banks[0]; bank[:8] != strings.Repeat("\xff", 8) || bank[8:11] != image[8:11] || bank[11:] != strings.Repeat("\xff", 85) {
		t.Errorf("after one step and three bytes the bank is %q", bank)
	}
}

// cardRun is a random run of a card: its acts.
func cardRun(seed uint64, n int) []impl.CardAct {
	r := newRandom(seed)
	stations := []int{2, 4, 6, 99, most48}
	var list []impl.CardAct
	next := 0
	for len(list) < n {
		k := r.IntN(3)
		body := udp(randomText(r, int(r.UintN(60))))
		if r.UintN(2) == 0 {
			body = tcp(randomText(r, int(r.UintN(200))))
			body.Seg.SrcPort, body.Seg.Seq = k, 1000+next
			next += len(body.Seg.Body)
			if r.UintN(4) == 0 {
				body = flagged(tcp(""), impl.FlagSyn)
				body.Seg.SrcPort, body.Seg.Seq = k, 1000+next-1
			}
		}
		a := impl.CardAct{Function: k}
		switch r.UintN(16) {
		case 0, 1, 2:
			src := stations[k]
			if r.UintN(8) == 0 {
				src = stations[r.IntN(4)]
			}
			a.Act = impl.Act{Packet: between(src, stations[r.IntN(5)], []int{-1, -1, 0, 5, 9}[r.UintN(5)], body), Size: 1 + int(r.UintN(128)), Cut: 20 + int(r.UintN(109))}
		case 3, 4:
			a.Act.Kind = impl.ActTransmit
		case 5, 6, 7:
			a.Act = impl.Act{Kind: impl.ActReceive, Frame: frame(between(99, stations[r.IntN(5)], []int{-1, -1, 0, 5, 9}[r.UintN(5)], body))}
			if r.UintN(8) == 0 {
				a.Act.Frame = randomFrame(r.Uint64())
			}
		case 8:
			a.Act.Kind = impl.ActFlush
		case 9, 10:
			a.Act.Kind = impl.ActTick
		case 11, 12, 13:
			a.Act = impl.Act{Kind: impl.ActService, Budget: 1 + int(r.UintN(5))}
		case 14:
			a.Kind, a.Message = 1, impl.Message{Seq: int(r.UintN(4)) + 7*boolInt(k == 1), Op: int(r.UintN(6)), Arg: []int{2, 3, 4, 5, 8, 9}[r.UintN(6)]}
		case 15:
			switch r.UintN(6) {
			case 0:
				a.Act.Kind = impl.ActReset
			case 1:
				a.Kind, a.Part = 2, int(r.UintN(12))
				a.Image, _ = impl.MakeImage(int(r.UintN(20)), randomText(r, int(r.UintN(85))))
			case 2:
				a = badCardActs()[r.IntN(len(badCardActs()))]
			}
		}
		list = append(list, a)
	}
	return list
}

func TestRunCard(t *testing.T) {
	for seed := range uint64(12) {
		list := cardRun(seed, 40)
		c := newCard(t, seed%2 == 0)
		want := c
		var numbers []int
		for _, n := range []int{0, 1, 39, 40} {
			for len(numbers) < n {
				next, number := cardActModel(want, list[len(numbers)])
				want, numbers = next, append(numbers, number)
			}
			if got, l := impl.RunCard(c, list[:n]); !same(got, want) || !slices.Equal(l, numbers) {
				t.Errorf("seed %d: %d acts give %v, not %v", seed, n, l, numbers)
			}
		}
		checkPure(t, impl.RunCard, c, list[:6])
		if got, l := impl.RunCard(c, append(list, impl.CardAct{})); !same(got, c) || l != nil {
			t.Errorf("41 acts: got %v", l)
		}
	}
	for name, bad := range badCards(t) {
		if got, l := impl.RunCard(bad, cardActs()[:3]); !same(got, bad) || l != nil {
			t.Errorf("an invalid card runs: %s", name)
		}
	}
}

func TestCalmCard(t *testing.T) {
	for _, c := range []impl.Card{newCard(t, true), busyCard(t), sendingCard(t, 5)} {
		for _, budget := range []int{1, 2, 1000} {
			want := copyOf(c)
			for k, h := range c.Hosts {
				want.Hosts[k] = impl.HostFlush(h)
			}
			for rounds := range 6 {
				if got := impl.CalmCard(c, budget, rounds); !same(got, want) {
					t.Errorf("the budget %d and %d rounds: got other hosts", budget, rounds)
				}
				for k := range want.Hosts {
					want.Hosts[k], _ = impl.HostService(impl.HostTick(want.Hosts[k]), budget)
				}
			}
		}
		for _, n := range append([]int{-1, 0, 1001}, far...) {
			if got := impl.CalmCard(c, n, 3); !same(got, c) {
				t.Errorf("the budget %d is accepted", n)
			}
		}
		for _, n := range append([]int{-1, 201}, far...) {
			if got := impl.CalmCard(c, 3, n); !same(got, c) {
				t.Errorf("%d rounds are accepted", n)
			}
		}
		if got := impl.CalmCard(c, 1000, 200); same(got, c) != same(c, newCard(t, true)) {
			t.Error("the most rounds are not performed")
		}
		checkPure(t, impl.CalmCard, c, 3, 3)
		checkPure(t, impl.CalmCard, c, 0, 3)
	}
	for name, bad := range badCards(t) {
		if got := impl.CalmCard(bad, 4, 4); !same(got, bad) {
			t.Errorf("an invalid card is calmed: %s", name)
		}
	}
}

func TestWhatOneFunctionDoesLeavesTheOthersAsTheyAre(t *testing.T) {
	alone, foreign := 0, 0
	for seed := range uint64(30) {
		r := newRandom(seed)
		c := newCard(t, seed%2 == 0)
		for _, a := range cardRun(seed, 60) {
			next, number := impl.DoCard(c, a)
			shared := a.Kind == impl.CardUpdate || a.Kind == impl.CardHost && (a.Act.Kind == impl.ActTransmit || a.Act.Kind == impl.ActReceive || a.Act.Kind == impl.ActTick)
			for k := range c.Hosts {
				if number != -1 && !shared && k != a.Function && (!same(next.Hosts[k], c.Hosts[k]) || !same(next.Boxes[k], c.Boxes[k]) || next.Functions[k] != c.Functions[k]) {
					t.Fatalf("seed %d: %+v changes host %d", seed, a, k)
				}
				// Sending only lets others receive: what they send and what they were told remains as it is.
				if a.Act.Kind == impl.ActTransmit && k != a.Function && (!same(next.Hosts[k].Tx, c.Hosts[k].Tx) || !same(next.Boxes[k], c.Boxes[k]) || next.Functions[k] != c.Functions[k] && a.Kind == impl.CardHost) {
					t.Fatalf("seed %d: %+v changes what host %d sends", seed, a, k)
				}
			}
			if !shared && number != -1 {
				alone++
			}
			if !slices.IsSorted(next.Stamps) || len(next.Stamps) > 0 && next.Stamps[len(next.Stamps)-1] > next.Clock.Time || next.Clock.Time < c.Clock.Time {
				t.Fatalf("seed %d: the stamps are %v at %d", seed, next.Stamps, next.Clock.Time)
			}
			if !impl.CardOk(next) || impl.BootVersion(next.Flash) == -1 {
				t.Fatalf("seed %d: after %+v the card does not boot", seed, a)
			}
			c = next
			// A foreign sender reaches nobody.
			k := r.IntN(3)
			p := between(c.Boxes[(k+1)%3].Filter.Mac, most48, -1, udp("foreign"))
			if r.UintN(2) == 0 {
				p.SrcMac = 1234
			}
			if got := impl.CardSwitch(c, k+1, p); !same(got, c) {
				t.Fatalf("seed %d: a foreign sender reaches somebody", seed)
			}
			h, ok := impl.HostSend(c.Hosts[k], p, 100, 128)
			if ok && len(c.Hosts[k].Tx.Waiting) == 0 {
				foreign++
				sending := c
				sending.Hosts = slices.Clone(c.Hosts)
				sending.Hosts[k] = h
				got := impl.CardTransmit(sending, k)
				for i := range got.Hosts {
					if i != k && !same(got.Hosts[i], c.Hosts[i]) || got.Functions[k].Refused != c.Functions[k].Refused+1 || len(got.Uplink) != len(c.Uplink) {
						t.Fatalf("seed %d: a foreign sender reaches host %d", seed, i)
					}
				}
			}
		}
	}
	if alone < 300 || foreign < 100 {
		t.Errorf("%d acts of one function, %d of foreign senders", alone, foreign)
	}
}
