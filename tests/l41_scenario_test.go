package tests

import (
	"slices"
	"strings"
	"testing"

	"loop.example/g03312/impl"
)

// acts are one valid act of each kind.
func acts() []impl.Act {
	return []impl.Act{
		{Kind: impl.ActSend, Packet: tcp("hello"), Size: 100, Cut: 60}, {Kind: impl.ActTransmit}, {Kind: impl.ActReceive, Frame: frame(udp("abc"))}, {Kind: impl.ActFlush},
		{Kind: impl.ActTick}, {Kind: impl.ActService, Budget: 3}, {Kind: impl.ActReset},
	}
}

// badActs are acts that are not valid.
func badActs() []impl.Act {
	list := []impl.Act{{Kind: impl.ActReceive, Frame: strings.Repeat("x", 601)}}
	for kind := range 7 {
		for k, x := range []impl.Act{{Packet: impl.Packet{Ttl: 1}}, {Packet: impl.Packet{Seg: impl.Segment{Body: "x"}}}, {Size: 1}, {Cut: -1}, {Frame: "x"}, {Budget: 1}} {
			x.Kind = kind
			fits := kind == impl.ActSend && k < 4 || kind == impl.ActReceive && k == 4 || kind == impl.ActService && k == 5
			if !fits {
				list = append(list, x)
			}
		}
	}
	for _, n := range append([]int{-1, 7, 8}, far...) {
		list = append(list, impl.Act{Kind: n})
	}
	return list
}

func TestActOk(t *testing.T) {
	if impl.MaxActs != 40 || impl.ActSend != 0 || impl.ActTransmit != 1 || impl.ActReceive != 2 || impl.ActFlush != 3 || impl.ActTick != 4 || impl.ActService != 5 || impl.ActReset != 6 {
		t.Error("other constants")
	}
	for i, a := range badActs() {
		if impl.ActOk(a) {
			t.Errorf("the invalid act %d is accepted: %+v", i, a)
		}
	}
	if len(badActs()) < 40 {
		t.Errorf("there are only %d invalid acts", len(badActs()))
	}
	for _, a := range acts() {
		if !impl.ActOk(a) || !impl.ActOk(impl.Act{Kind: a.Kind}) {
			t.Errorf("%+v is refused", a)
		}
	}
	for n := 590; n < 610; n++ {
		if got := impl.ActOk(impl.Act{Kind: impl.ActReceive, Frame: strings.Repeat("x", n)}); got != (n <= 600) {
			t.Errorf("a frame of %d bytes: got %v", n, got)
		}
	}
	// What an act uses may be anything.
	for _, n := range far {
		if !impl.ActOk(impl.Act{Packet: impl.Packet{Id: n}, Size: n, Cut: n}) || !impl.ActOk(impl.Act{Kind: impl.ActService, Budget: n}) {
			t.Errorf("%d is refused", n)
		}
	}
}

// actModel is DoAct as the document says it.
func actModel(h impl.Host, a impl.Act) (impl.Host, int) {
	if !impl.HostOk(h) || !impl.ActOk(a) {
		return h, -1
	}
	switch a.Kind {
	case 0:
		after, ok := impl.HostSend(h, a.Packet, a.Size, a.Cut)
		return after, boolInt(ok)
	case 1:
		return impl.HostTransmit(h), 0
	case 2:
		return impl.HostReceive(h, a.Frame), 0
	case 3:
		return impl.HostFlush(h), 0
	case 4:
		return impl.HostTick(h), 0
	case 5:
		return impl.HostService(h, a.Budget)
	}
	return impl.HostReset(h), 0
}

// boolInt is 1 for true and 0 for false.
func boolInt(b bool) int {
	if b {
		return 1
	}
	return 0
}

func TestDoAct(t *testing.T) {
	more := []impl.Act{{}, {Packet: tcp("x"), Size: 50, Cut: 129}, {Kind: impl.ActReceive}, {Kind: impl.ActService}, {Kind: impl.ActService, Budget: 1000}, {Kind: impl.ActService, Budget: 1001}}
	for i, h := range append(manyHosts(t), impl.HostTick(impl.HostTick(impl.HostTick(impl.HostFlush(busyHost(t)))))) {
		for _, a := range append(acts(), more...) {
			want, number := actModel(h, a)
			if got, n := impl.DoAct(h, a); !same(got, want) || n != number {
				t.Errorf("host %d, %+v: got %d, want %d", i, a, n, number)
			}
			checkPure(t, impl.DoAct, h, a)
		}
		for _, a := range badActs() {
			if got, n := impl.DoAct(h, a); !same(got, h) || n != -1 {
				t.Errorf("host %d, the invalid act %+v: got %d", i, a, n)
			}
		}
		checkPure(t, impl.DoAct, h, badActs()[0])
	}
	served, n := impl.DoAct(impl.HostTick(impl.HostTick(impl.HostTick(impl.HostFlush(busyHost(t))))), impl.Act{Kind: impl.ActService, Budget: 9})
	if n == 0 || len(served.Streams) == 0 {
		t.Errorf("the number of completions is %d", n)
	}
	for name, h := range badHosts(t) {
		for _, a := range acts() {
			if got, n := impl.DoAct(h, a); !same(got, h) || n != -1 {
				t.Errorf("an invalid host acts: %s", name)
			}
		}
	}
}

// randomActs are acts of all sorts, with frames in order.
func randomActs(seed uint64, n int, resets bool) []impl.Act {
	r := newRandom(seed)
	frames := wireFrames(seed)
	var list []impl.Act
	for len(list) < n {
		switch r.UintN(14) {
		case 0, 1:
			list = append(list, impl.Act{Packet: tcp(randomText(r, int(r.UintN(200)))), Size: 1 + int(r.UintN(128)), Cut: 1 + int(r.UintN(128))})
		case 2:
			list = append(list, impl.Act{Kind: impl.ActTransmit})
		case 3:
			list = append(list, impl.Act{Kind: impl.ActFlush})
		case 4, 5:
			list = append(list, impl.Act{Kind: impl.ActTick})
		case 6, 7:
			list = append(list, impl.Act{Kind: impl.ActService, Budget: 1 + int(r.UintN(4))})
		case 8:
			if resets && r.UintN(3) == 0 {
				list = append(list, impl.Act{Kind: impl.ActReset})
			} else if r.UintN(4) == 0 {
				list = append(list, badActs()[r.IntN(len(badActs()))])
			}
		default:
			if len(frames) > 0 {
				list, frames = append(list, impl.Act{Kind: impl.ActReceive, Frame: frames[0]}), frames[1:]
			}
		}
	}
	return list
}

func TestRunActs(t *testing.T) {
	for seed := range uint64(30) {
		list := randomActs(seed, 40, true)
		h := newHost(t, seed%2 == 0, 1, int(seed%4))
		want := h
		var numbers []int
		for _, n := range []int{0, 1, 39, 40} {
			for len(numbers) < n {
				next, number := actModel(want, list[len(numbers)])
				want, numbers = next, append(numbers, number)
			}
			if got, l := impl.RunActs(h, list[:n]); !same(got, want) || !slices.Equal(l, numbers) {
				t.Errorf("seed %d: %d acts give %v, not %v", seed, n, l, numbers)
			}
		}
		checkPure(t, impl.RunActs, h, list[:5])
		over := append(list, impl.Act{Kind: impl.ActTick})
		if got, l := impl.RunActs(h, over); !same(got, h) || l != nil {
			t.Errorf("41 acts: got %v", l)
		}
		if impl.AllDelivered(h, over) {
			t.Error("41 acts are delivered")
		}
		checkPure(t, impl.RunActs, h, over)
	}
	for name, h := range badHosts(t) {
		if got, l := impl.RunActs(h, acts()); !same(got, h) || l != nil || impl.AllDelivered(h, nil) {
			t.Errorf("an invalid host acts: %s", name)
		}
	}
	// After an act that leaves an invalid host, the others change nothing.
	most := newHost(t, true, 1, 1)
	most.Counters.Frames = 1000000000000
	if got, l := impl.RunActs(most, acts()); !slices.Equal(l, []int{1, 0, 0, -1, -1, -1, -1}) || got.Counters.Frames != 1000000000001 {
		t.Errorf("a host that becomes invalid: got %v", l)
	}
}

// runSoftModel is RunSoft as the document says it.
func runSoftModel(s impl.Soft, acts []impl.Act, numbers []int) impl.Soft {
	if !impl.SoftOk(s) || len(acts) > 40 || len(numbers) != len(acts) {
		return s
	}
	for i, a := range acts {
		if impl.ActOk(a) && a.Kind == 2 {
			s = impl.SoftReceive(s, a.Frame)
		}
		if impl.ActOk(a) && a.Kind == 0 && numbers[i] == 1 {
			s = impl.SoftSend(s, a.Packet, a.Size)
		}
	}
	return s
}

func TestRunSoft(t *testing.T) {
	for seed := range uint64(40) {
		r := newRandom(seed)
		list := randomActs(seed, 40, true)
		var numbers []int
		for range list {
			numbers = append(numbers, int(r.UintN(4))-1)
		}
		for _, n := range []int{0, 1, 39, 40} {
			if got, want := impl.RunSoft(soft(t), list[:n], numbers[:n]), runSoftModel(soft(t), list[:n], numbers[:n]); !same(got, want) {
				t.Errorf("seed %d: %d acts give other streams or frames", seed, n)
			}
		}
		checkPure(t, impl.RunSoft, soft(t), list[:5], numbers[:5])
	}
	list := slices.Repeat(acts(), 6)
	numbers := slices.Repeat([]int{1}, 42)
	for _, c := range [][2]int{{41, 41}, {42, 42}, {5, 4}, {4, 5}, {0, 1}, {1, 0}} {
		if got := impl.RunSoft(soft(t), list[:c[0]], numbers[:c[1]]); !same(got, soft(t)) {
			t.Errorf("%d acts and %d numbers are performed", c[0], c[1])
		}
		checkPure(t, impl.RunSoft, soft(t), list[:c[0]], numbers[:c[1]])
	}
	for i, s := range badSofts(t) {
		if got := impl.RunSoft(s, list[:7], numbers[:7]); !same(got, s) {
			t.Errorf("the invalid software host %d acts", i)
		}
	}
	// A frame arrives whatever its number is, and a packet is sent only with the number 1.
	for _, number := range append([]int{-1, 0, 1, 2}, far...) {
		got := impl.RunSoft(soft(t), []impl.Act{acts()[0], acts()[2]}, []int{number, number})
		if sent := len(got.Sent) - 1; sent != boolInt(number == 1) || !strings.HasSuffix(impl.DataOf(got.Streams, impl.FlowOf(udp(""))), "\x00\x03abc") {
			t.Errorf("with the number %d, %d frames are sent", number, sent)
		}
	}
}

func TestHasReset(t *testing.T) {
	if !impl.HasReset(acts()) || impl.HasReset(acts()[:6]) || impl.HasReset(nil) || impl.HasReset([]impl.Act{{Kind: impl.ActReset, Budget: 1}}) || impl.HasReset(badActs()) {
		t.Error("HasReset is wrong")
	}
	// The number of acts does not matter.
	if !impl.HasReset(append(slices.Repeat(acts()[:6], 20), acts()[6])) {
		t.Error("the last of many acts is not found")
	}
	checkPure(t, impl.HasReset, acts())
}

func TestAllDelivered(t *testing.T) {
	yes, no := 0, 0
	for seed := range uint64(60) {
		h := newHost(t, seed%2 == 0, 1+int(seed%3), int(seed%4))
		if seed%5 == 0 {
			h = busyHost(t)
		}
		list := randomActs(seed, int(seed)%41, seed%3 == 0)
		after, numbers := impl.RunActs(h, list)
		after = impl.DrainHost(after, 4, 100)
		s := runSoftModel(impl.SoftOf(h), list, numbers)
		want := sameDataModel(after.Streams, s.Streams) && impl.HostDropped(after) == impl.HostDropped(h)
		if got := impl.AllDelivered(h, list); got != want {
			t.Errorf("seed %d: got %v", seed, got)
		}
		if want {
			yes++
		} else {
			no++
		}
	}
	if yes < 10 || no < 10 {
		t.Errorf("%d times all was delivered, %d times not", yes, no)
	}
	five := slices.Repeat([]impl.Act{{Kind: impl.ActReceive, Frame: frame(udp("x"))}}, 5)
	// There are buffers for four frames.
	if h := newHost(t, false, 1, 0); !impl.AllDelivered(h, five[:4]) || impl.AllDelivered(h, five) {
		t.Error("four frames are not delivered, or five are")
	}
	// What was held before the acts is delivered by the card only.
	if impl.AllDelivered(busyHost(t), nil) {
		t.Error("the streams of a busy host are those of software")
	}
	checkPure(t, impl.AllDelivered, newHost(t, true, 1, 0), acts())
}

func TestStreamsAndFramesAreThoseOfSoftware(t *testing.T) {
	clean, frames, bytes := 0, 0, 0
	for seed := range uint64(150) {
		r := newRandom(seed)
		coalesce, count, time := r.UintN(2) == 0, 1+int(r.UintN(6)), int(r.UintN(6))
		h := newHost(t, coalesce, count, time)
		list := randomActs(seed, 40, false)
		if seed%3 > 0 {
			// A host that looks often drops little.
			var eager []impl.Act
			for _, a := range list[:13] {
				eager = append(eager, a, impl.Act{Kind: impl.ActTick}, impl.Act{Kind: impl.ActService, Budget: 1 + int(r.UintN(4))})
			}
			list = eager
		}
		after, numbers := impl.RunActs(h, list)
		after = impl.DrainHost(after, 4, 100)
		s := impl.RunSoft(impl.SoftOf(h), list, numbers)
		if !slices.Equal(after.Wire, s.Sent) {
			t.Fatalf("seed %d: %d frames were sent, %d by software", seed, len(after.Wire), len(s.Sent))
		}
		frames += len(s.Sent)
		if impl.HostDropped(after) > 0 {
			continue
		}
		if !impl.SameData(after.Streams, s.Streams) || !impl.AllDelivered(h, list) {
			t.Fatalf("seed %d: the streams differ from those of software", seed)
		}
		clean++
		for _, x := range s.Streams {
			bytes += len(x.Data)
		}
	}
	if clean < 40 || frames < 300 || bytes < 4000 {
		t.Errorf("%d runs dropped nothing, %d frames were sent, %d bytes delivered", clean, frames, bytes)
	}
}
