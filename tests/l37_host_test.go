package tests

import (
	"slices"
	"strings"
	"sync"
	"testing"

	"loop.example/g03312/impl"
)

// hostSteering is a steering over two queues: a rule that drops what is tagged with 9, one for a port, and the rest spread.
func hostSteering() impl.Steering {
	return impl.Steering{
		Rules: []impl.Rule{{FirstPort: 0, LastPort: most16, Vlan: 9, Action: impl.RuleDrop}, {Priority: 1, FirstPort: 53, LastPort: 53, Vlan: -2, Queue: 1}},
		Table: impl.NewTable(), Spread: impl.Spread{Key: rssKey, Table: []int{0, 1, 0, 0}},
	}
}

// newHost is a new host with two queues.
func newHost(t testing.TB, coalesce bool, count int, time int) impl.Host {
	t.Helper()
	h, ok := impl.NewHost(2, filter(), hostSteering(), coalesce, count, time)
	if !ok {
		t.Fatal("there is no host")
	}
	return h
}

func frame(p impl.Packet) string {
	s, _ := impl.BuildFrame(p)
	return s
}

// busyHost is a host in the middle of its work: packets wait to be sent, packets were received, one is held, and one queue is polled.
func busyHost(t testing.TB) impl.Host {
	t.Helper()
	h := newHost(t, true, 2, 3)
	for k, p := range []impl.Packet{tcp("hello"), udp("abc"), tcp(text(200))} {
		h, _ = impl.HostSend(h, p, 100, 60)
		if k == 0 {
			h = impl.HostTransmit(h)
		}
	}
	syn := flagged(tcp(""), impl.FlagSyn)
	syn.Seg.Seq--
	for _, p := range []impl.Packet{syn, tcp("one"), udp("x"), udp("y"), withTag(udp("z"), 9), tcp("two")} {
		h = impl.HostReceive(h, frame(p))
	}
	h = impl.HostReceive(h, "no frame")
	h, _ = impl.HostService(h, 1)
	h = impl.HostTick(h)
	h.Returned = []int{77}
	if !impl.HostOk(h) {
		t.Fatal("the busy host is not valid")
	}
	return h
}

// badHosts are hosts that are not valid.
func badHosts(t testing.TB) map[string]impl.Host {
	changes := map[string]func(*impl.Host){
		"memory": func(h *impl.Host) { h.Memory.Pages[3] = "" }, "mappings": func(h *impl.Host) { h.Maps = append(h.Maps, h.Maps[0]) },
		"sending": func(h *impl.Host) { h.Tx.Next = -1 }, "filter": func(h *impl.Host) { h.Filter.Mac = -1 },
		"no queue": func(h *impl.Host) { h.Rx, h.Pools, h.Vectors, h.Polling = nil, nil, nil, nil },
		"three queues": func(h *impl.Host) {
			h.Rx, h.Pools = append(h.Rx, h.Rx[0]), append(h.Pools, h.Pools[0])
			h.Vectors, h.Polling = append(h.Vectors, h.Vectors[0]), append(h.Polling, false)
		},
		"a pool less": func(h *impl.Host) { h.Pools = h.Pools[:1] }, "a vector less": func(h *impl.Host) { h.Vectors = h.Vectors[:1] }, "a queue less": func(h *impl.Host) { h.Rx = h.Rx[:1] },
		"one not polled": func(h *impl.Host) { h.Polling = h.Polling[:1] }, "more polled": func(h *impl.Host) { h.Polling = append(h.Polling, true) },
		"a vector more": func(h *impl.Host) { h.Vectors = append(h.Vectors, h.Vectors[0]) }, "a pool more": func(h *impl.Host) { h.Pools = append(h.Pools, h.Pools[0]) },
		"the first queue": func(h *impl.Host) { h.Rx[0].Dropped = -1 }, "the last queue": func(h *impl.Host) { h.Rx[1].Ring.Size = 3 }, "a pool": func(h *impl.Host) { h.Pools[1].Size = 0 },
		"a vector": func(h *impl.Host) { h.Vectors[1].Count = -1 }, "steering": func(h *impl.Host) { h.Steering.Spread.Table[0] = 2 },
		"Frames": func(h *impl.Host) { h.Counters.Frames = -1 }, "Bad": func(h *impl.Host) { h.Counters.Bad = 1000000000001 }, "Filtered": func(h *impl.Host) { h.Counters.Filtered = -1 },
		"Refused": func(h *impl.Host) { h.Counters.Refused = 1000000000001 }, "Taken": func(h *impl.Host) { h.Counters.Taken = -1 },
	}
	list := map[string]impl.Host{"zero": {}}
	for name, change := range changes {
		h := copyOf(busyHost(t))
		change(&h)
		list[name] = h
	}
	return list
}

func TestNewHost(t *testing.T) {
	if impl.MaxHostQueues != 2 || impl.TxBase != 0 || impl.TxPool != 256 || impl.RxBase != 1280 || impl.RxStride != 1792 || impl.HostPages != 38 {
		t.Error("other constants")
	}
	for queues := 1; queues <= 2; queues++ {
		steer := hostSteering()
		if queues == 1 {
			steer = impl.Steering{Table: impl.NewTable(), Spread: impl.Spread{Key: rssKey, Table: []int{0}}}
		}
		want := impl.Host{Memory: impl.NewMemory(38), Filter: filter(), Steering: steer, Coalesce: queues == 2}
		for v := range 38 {
			want.Maps = append(want.Maps, impl.Mapping{Virtual: v, Physical: 37 - v, Writable: v < 2 || v > 9})
		}
		want.Tx = impl.TxQueue{Ring: impl.Ring{Size: 16}, Pool: impl.Pool{Base: 256, Size: 128, Count: 8, Free: []int{0, 1, 2, 3, 4, 5, 6, 7}}}
		for k := range queues {
			base := 1280 + 1792*k
			done := impl.CompletionQueue{Base: base + 64, Size: 4}
			want.Rx = append(want.Rx, impl.RxQueue{Ring: impl.Ring{Base: base, Size: 4, Tail: 4}, Device: done, Driver: done})
			want.Pools = append(want.Pools, impl.Pool{Base: base + 128, Size: 384, Count: 4})
			want.Vectors, want.Polling = append(want.Vectors, impl.Vector{MaxCount: 5, MaxTime: 6}), append(want.Polling, false)
			for b := range 4 {
				want.Memory, _ = writeModel(want.Maps, want.Memory, 0, base+16*b, postedBuffer(384, base+128+384*b, b), true)
			}
		}
		got, ok := impl.NewHost(queues, filter(), steer, queues == 2, 5, 6)
		if !ok || !same(got, want) || !impl.HostOk(got) {
			t.Errorf("%d queues: got %+v", queues, got)
		}
		checkPure(t, impl.NewHost, queues, filter(), steer, true, 5, 6)
	}
	refuse := func(name string, queues int, f impl.Filter, s impl.Steering, count int, time int) {
		t.Helper()
		if h, ok := impl.NewHost(queues, f, s, true, count, time); ok || !same(h, impl.Host{}) {
			t.Errorf("%s: got %+v, %v", name, h, ok)
		}
	}
	for _, n := range append([]int{-1, 0, 3, 4}, far...) {
		refuse("another number of queues", n, filter(), hostSteering(), 1, 1)
	}
	refuse("one queue for two", 1, filter(), hostSteering(), 1, 1)
	for _, f := range badFilters() {
		refuse("an invalid filter", 2, f, hostSteering(), 1, 1)
	}
	for _, s := range append(invalidSteerings(), steering()) {
		refuse("an invalid steering", 2, filter(), s, 1, 1)
	}
	for _, n := range append([]int{-1, 65}, far...) {
		refuse("another count", 2, filter(), hostSteering(), n, 1)
		refuse("another time", 2, filter(), hostSteering(), 1, n)
	}
	refuse("the count 0", 2, filter(), hostSteering(), 0, 1)
}

func TestHostOk(t *testing.T) {
	for name, h := range badHosts(t) {
		if impl.HostOk(h) {
			t.Errorf("an invalid host is accepted: %s", name)
		}
	}
	set := func(at func(*impl.Counters) *int) func(*impl.Host, int) {
		return func(h *impl.Host, n int) { *at(&h.Counters) = n }
	}
	fields := []field[impl.Host]{
		{"Frames", 0, 1000000000000, set(func(c *impl.Counters) *int { return &c.Frames })}, {"Bad", 0, 1000000000000, set(func(c *impl.Counters) *int { return &c.Bad })},
		{"Filtered", 0, 1000000000000, set(func(c *impl.Counters) *int { return &c.Filtered })}, {"Refused", 0, 1000000000000, set(func(c *impl.Counters) *int { return &c.Refused })},
		{"Taken", 0, 1000000000000, set(func(c *impl.Counters) *int { return &c.Taken })},
	}
	checkFields(t, busyHost(t), fields, impl.HostOk)
	// The physical memory may be any one, also one in which the rings have no place.
	h := busyHost(t)
	h.Memory, h.Maps = impl.Memory{}, nil
	if !impl.HostOk(h) {
		t.Error("a host without memory is refused")
	}
	checkPure(t, impl.HostOk, busyHost(t))
}

// manyHosts are valid hosts of all sorts.
func manyHosts(t testing.TB) []impl.Host {
	plain, bare, closed, other := busyHost(t), busyHost(t), busyHost(t), busyHost(t)
	plain.Coalesce = false
	bare.Memory, bare.Maps = impl.Memory{}, nil
	closed.Maps = slices.Clone(closed.Maps)
	for i := range closed.Maps {
		closed.Maps[i].Writable = false
	}
	other.Tx.Waiting = other.Tx.Waiting[:1]
	list := []impl.Host{newHost(t, true, 1, 0), newHost(t, false, 64, 64), busyHost(t), plain, bare, closed, other}
	for _, h := range list {
		if !impl.HostOk(h) {
			t.Fatal("a host is not valid")
		}
	}
	return list
}

func TestHostSend(t *testing.T) {
	for i, h := range manyHosts(t) {
		for _, p := range []impl.Packet{tcp(""), tcp(text(300)), udp("x"), {}, udp(text(129))} {
			for _, cut := range []int{0, 1, 40, 128, 129} {
				want := h
				var can bool
				want.Memory, want.Tx, can = impl.SendPacket(h.Maps, h.Memory, 0, h.Tx, p, 1+cut, cut)
				if got, ok := impl.HostSend(h, p, 1+cut, cut); !same(got, want) || ok != can {
					t.Errorf("host %d sends %d bytes in pieces of %d: got %v, want %v", i, len(p.Seg.Body), cut, ok, can)
				}
			}
		}
		checkPure(t, impl.HostSend, h, tcp("x"), 50, 40)
	}
	for name, h := range badHosts(t) {
		if got, ok := impl.HostSend(h, tcp("x"), 50, 40); ok || !same(got, h) {
			t.Errorf("an invalid host sends: %s", name)
		}
	}
}

// transmitModel is HostTransmit as the document says it.
func transmitModel(h impl.Host) impl.Host {
	if !impl.HostOk(h) {
		return h
	}
	ring, frames, done, bad := impl.TransmitAll(h.Maps, h.Memory, 0, h.Tx.Ring)
	h.Tx.Ring = ring
	h.Wire = slices.Concat(h.Wire, frames)
	var cookies []int
	h.Tx, cookies = impl.CompletePackets(h.Tx, min(done+bad, len(h.Tx.Waiting)))
	h.Completed = slices.Concat(h.Completed, cookies)
	return h
}

func TestHostTransmit(t *testing.T) {
	// In this ring, a packet that is not one waits between two others.
	spoiled := busyHost(t)
	spoiled.Memory, _ = impl.HostWrite(spoiled.Maps, spoiled.Memory, 0, 256, strings.Repeat("\xff", 1024))
	spoiled, _ = impl.HostSend(spoiled, udp("good"), 100, 128)
	longer := busyHost(t)
	longer.Tx.Waiting = append(longer.Tx.Waiting, impl.Sent{Cookie: 500, Slots: 1})
	for i, h := range append(manyHosts(t), spoiled, longer) {
		want := transmitModel(h)
		if got := impl.HostTransmit(h); !same(got, want) || !impl.HostOk(got) {
			t.Errorf("host %d: got %+v, %v, %v", i, got.Tx, got.Completed, len(got.Wire))
		}
		checkPure(t, impl.HostTransmit, h)
	}
	got := impl.HostTransmit(busyHost(t))
	frames := slices.Concat(impl.SendFrames(tcp("hello"), 100), impl.SendFrames(udp("abc"), 100), impl.SendFrames(tcp(text(200)), 100))
	if !slices.Equal(got.Wire, frames) || !slices.Equal(got.Completed, []int{0, 1, 2}) || len(got.Tx.Waiting) != 0 || len(got.Tx.Pool.Free) != 8 {
		t.Errorf("got %+v, %v, %d frames", got.Tx, got.Completed, len(got.Wire))
	}
	// A packet that is not one is completed too, and the others are sent.
	got = impl.HostTransmit(spoiled)
	if !slices.Equal(got.Wire, slices.Concat(impl.SendFrames(tcp("hello"), 100), impl.SendFrames(udp("good"), 100))) || !slices.Equal(got.Completed, []int{0, 1, 2, 3}) {
		t.Errorf("with a spoiled packet: got %+v, %v, %d frames", got.Tx, got.Completed, len(got.Wire))
	}
	for name, h := range badHosts(t) {
		if got := impl.HostTransmit(h); !same(got, h) {
			t.Errorf("an invalid host transmits: %s", name)
		}
	}
}

// putEvents replaces the memory and a queue of a host, and performs AddEvent for each completion that was put.
func putEvents(h impl.Host, k int, m impl.Memory, q impl.RxQueue) impl.Host {
	h.Rx, h.Vectors = slices.Clone(h.Rx), slices.Clone(h.Vectors)
	for count := h.Rx[k].Device.Count; count != q.Device.Count; count = (count + 1) % (2 * q.Device.Size) {
		h.Vectors[k] = impl.AddEvent(h.Vectors[k])
	}
	h.Memory, h.Rx[k] = m, q
	return h
}

// hostReceiveModel is HostReceive as the document says it.
func hostReceiveModel(h impl.Host, s string) impl.Host {
	if !impl.HostOk(h) {
		return h
	}
	h.Counters.Frames++
	p, code := impl.ReadFrame(s)
	k := impl.SteerPacket(h.Steering, len(h.Rx), p)
	if code != impl.FrameFine {
		h.Counters.Bad++
	} else if !impl.Accepts(h.Filter, p) {
		h.Counters.Filtered++
	} else if k == impl.SteerDropped {
		h.Counters.Refused++
	} else {
		h.Counters.Taken++
		m, q := impl.ReceivePacket(h.Maps, h.Memory, 0, h.Rx[k], h.Steering.Spread.Key, p, h.Coalesce)
		h = putEvents(h, k, m, q)
	}
	return h
}

func TestHostReceive(t *testing.T) {
	other := tcp("x")
	other.DstMac++
	all := udp("for all")
	all.DstMac = most48
	superFrame := func(p impl.Packet) string {
		image, _ := impl.BuildImage(p)
		return impl.WithFcs(image)
	}
	next := tcp("three")
	next.Seg.Seq, next.Id = 1006, 501
	frames := []string{
		frame(tcp("hello")), frame(next), frame(udp("abc")), frame(other), frame(all), frame(withTag(udp("a"), 5)), frame(withTag(udp("a"), 9)), frame(withTag(tcp("a"), 4)),
		"", "x", flip(frame(tcp("hello")), 100), superFrame(tcp(text(200))), frame(flagged(tcp(""), impl.FlagSyn)),
	}
	counts := map[impl.Counters]int{}
	for i, h := range manyHosts(t) {
		for _, first := range frames {
			after := impl.HostReceive(h, first)
			if want := hostReceiveModel(h, first); !same(after, want) {
				t.Errorf("host %d receives %q: got %+v, %+v", i, first, after.Rx, after.Counters)
			}
			if !impl.HostOk(after) {
				t.Errorf("host %d is not valid after %q", i, first)
			}
			a, b := after.Counters, h.Counters
			counts[impl.Counters{Frames: a.Frames - b.Frames, Bad: a.Bad - b.Bad, Filtered: a.Filtered - b.Filtered, Refused: a.Refused - b.Refused, Taken: a.Taken - b.Taken}]++
			for _, second := range frames {
				if got, want := impl.HostReceive(after, second), hostReceiveModel(after, second); !same(got, want) {
					t.Errorf("host %d receives %q after %q: got %+v, %+v", i, second, first, got.Rx, got.Counters)
				}
			}
		}
		checkPure(t, impl.HostReceive, h, frames[0])
		checkPure(t, impl.HostReceive, h, "")
	}
	want := map[impl.Counters]int{{Frames: 1, Bad: 1}: 4 * 7, {Frames: 1, Filtered: 1}: 2 * 7, {Frames: 1, Refused: 1}: 7, {Frames: 1, Taken: 1}: 6 * 7}
	for c, n := range want {
		if counts[c] != n {
			t.Errorf("%+v was counted %d times, not %d times", c, counts[c], n)
		}
	}
	// Without coalescing, what was held before and the new packet are two completions, and two events.
	h := busyHost(t)
	h.Coalesce = false
	held := slices.IndexFunc(h.Rx, func(q impl.RxQueue) bool { return q.Holding })
	q := h.Rx[held]
	got := impl.HostReceive(h, frame(q.Held.Packet))
	if (got.Rx[held].Device.Count-q.Device.Count+8)%8 != 2 || got.Vectors[held].Count != h.Vectors[held].Count+2 {
		t.Errorf("two completions: got %+v, %+v", got.Rx[held], got.Vectors[held])
	}
	// So it is in the smallest completion queue, in which they come to the slot where the next one is.
	small := copyOf(h)
	small.Rx[held].Device = impl.CompletionQueue{Base: 4700, Size: 2, Count: 3}
	small.Rx[held].Driver = small.Rx[held].Device
	got = impl.HostReceive(small, frame(q.Held.Packet))
	if got.Rx[held].Device.Count != 1 || got.Vectors[held].Count != h.Vectors[held].Count+2 {
		t.Errorf("two completions in a small queue: got %+v, %+v", got.Rx[held], got.Vectors[held])
	}
	most := busyHost(t)
	most.Counters.Frames = 1000000000000
	if got := impl.HostReceive(most, "x"); got.Counters.Frames != 1000000000001 || impl.HostOk(got) {
		t.Errorf("as many frames as possible: got %+v", got.Counters)
	}
	for name, h := range badHosts(t) {
		if got := impl.HostReceive(h, frames[0]); !same(got, h) {
			t.Errorf("an invalid host receives: %s", name)
		}
	}
}

// hostFlushModel is HostFlush as the document says it.
func hostFlushModel(h impl.Host) impl.Host {
	if !impl.HostOk(h) {
		return h
	}
	for k := range h.Rx {
		m, q := impl.FlushHeld(h.Maps, h.Memory, 0, h.Rx[k], h.Steering.Spread.Key)
		h = putEvents(h, k, m, q)
	}
	return h
}

func TestHostFlushAndTick(t *testing.T) {
	flushed := 0
	for i, h := range manyHosts(t) {
		for _, p := range []impl.Packet{tcp("hello"), udp("abc")} {
			h = impl.HostReceive(h, frame(p))
			got := impl.HostFlush(h)
			if !same(got, hostFlushModel(h)) {
				t.Errorf("host %d: HostFlush gives %+v", i, got.Rx)
			}
			for k, q := range got.Rx {
				if q.Holding {
					t.Errorf("host %d still holds a packet", i)
				}
				if h.Rx[k].Holding {
					flushed++
				}
			}
			want := copyOf(h)
			for k := range want.Vectors {
				want.Vectors[k] = impl.TickVector(h.Vectors[k])
			}
			if got := impl.HostTick(h); !same(got, want) {
				t.Errorf("host %d: HostTick gives %+v", i, got.Vectors)
			}
			checkPure(t, impl.HostFlush, h)
			checkPure(t, impl.HostTick, h)
		}
	}
	if flushed < 8 {
		t.Errorf("only %d packets were flushed", flushed)
	}
	for name, h := range badHosts(t) {
		if !same(impl.HostFlush(h), h) || !same(impl.HostTick(h), h) {
			t.Errorf("an invalid host is flushed or ticks: %s", name)
		}
	}
}

// serviceModel is HostService as the document says it.
func serviceModel(h impl.Host, budget int) (impl.Host, int) {
	if !impl.HostOk(h) || budget < 1 || budget > 1000 {
		return h, 0
	}
	h = copyOf(h)
	total := 0
	for k := range h.Rx {
		v, ok := impl.TakeInterrupt(h.Vectors[k])
		h.Vectors[k] = v
		h.Polling[k] = h.Polling[k] || ok
		if !h.Polling[k] {
			continue
		}
		n := 0
		h.Memory, h.Rx[k], h.Pools[k], h.Streams, n = impl.PollQueue(h.Maps, h.Memory, 0, h.Rx[k], h.Pools[k], h.Streams, budget)
		total += n
		if n < budget {
			h.Polling[k] = false
			h.Vectors[k] = impl.Unmask(h.Vectors[k])
		}
	}
	return h, total
}

func TestHostService(t *testing.T) {
	worked := map[int]int{}
	for i, h := range manyHosts(t) {
		list := []impl.Host{h, impl.HostTick(impl.HostFlush(h)), impl.HostTick(impl.HostTick(impl.HostTick(impl.HostFlush(h))))}
		for k := range h.Rx {
			polled := copyOf(list[1])
			polled.Polling[k], polled.Vectors[k] = true, impl.MaskVector(polled.Vectors[k])
			list = append(list, polled)
		}
		for _, h := range list {
			for _, budget := range []int{1, 2, 3, 4, 5, 999, 1000} {
				want, n := serviceModel(h, budget)
				got, done := impl.HostService(h, budget)
				if !same(got, want) || done != n {
					t.Errorf("host %d with the budget %d: got %+v, %v, %d, want %+v, %v, %d", i, budget, got.Vectors, got.Polling, done, want.Vectors, want.Polling, n)
				}
				worked[done]++
			}
			for _, budget := range append([]int{-1, 0, 1001}, far...) {
				if got, done := impl.HostService(h, budget); !same(got, h) || done != 0 {
					t.Errorf("host %d with the budget %d: got %d", i, budget, done)
				}
			}
			checkPure(t, impl.HostService, h, 2)
			checkPure(t, impl.HostService, h, 0)
		}
	}
	if worked[0] == 0 || worked[1] == 0 || worked[2] == 0 {
		t.Errorf("numbers of completions: %v", worked)
	}
	for name, h := range badHosts(t) {
		if got, done := impl.HostService(h, 5); !same(got, h) || done != 0 {
			t.Errorf("an invalid host is serviced: %s", name)
		}
	}
}

func TestHostServiceEndsPollingBelowTheBudget(t *testing.T) {
	h := newHost(t, false, 1, 0)
	for range 3 {
		h = impl.HostReceive(h, frame(udp("x")))
	}
	for _, want := range []struct {
		done   int
		polled bool
	}{{2, true}, {1, false}, {0, false}} {
		next, done := impl.HostService(h, 2)
		if done != want.done || next.Polling[1] != want.polled || next.Vectors[1].Masked != want.polled || next.Polling[0] {
			t.Errorf("got %d, %v, %+v", done, next.Polling, next.Vectors)
		}
		h = next
	}
	if got := impl.DataOf(h.Streams, impl.FlowOf(udp(""))); got != strings.Repeat("\x00\x01x", 3) {
		t.Errorf("the stream is %q", got)
	}
}

func TestHostDropped(t *testing.T) {
	h := busyHost(t)
	h.Rx[0].Dropped, h.Rx[1].Dropped = 5, 11
	bad := badHosts(t)["a vector"]
	bad.Rx = append(slices.Clone(h.Rx), h.Rx[0])
	if impl.HostDropped(h) != 16 || impl.HostDropped(bad) != 21 || impl.HostDropped(impl.Host{}) != 0 {
		t.Error("HostDropped is wrong", impl.HostDropped(h), impl.HostDropped(bad))
	}
}

// someTraffic are the packets among which randomFrame chooses, made once.
var someTraffic = sync.OnceValue(func() [][]impl.Packet {
	var list [][]impl.Packet
	for seed := range uint64(8) {
		list = append(list, openedTraffic(seed))
	}
	return list
})

// randomFrame is a frame for a host, or for another one, or none.
func randomFrame(seed uint64) string {
	r := newRandom(seed)
	packets := someTraffic()[r.UintN(8)]
	p := packets[r.IntN(len(packets))]
	switch r.UintN(12) {
	case 0:
		p.DstMac++
	case 1:
		p.Vlan = 9
	case 2:
		return flip(frame(p), int(r.UintN(300)))
	case 3:
		return randomText(r, int(r.UintN(80)))
	}
	return frame(p)
}

func TestEveryFrameIsCountedOnceAndNoCompletionIsLeft(t *testing.T) {
	waited, dropped := 0, 0
	for seed := range uint64(60) {
		r := newRandom(seed)
		h := newHost(t, seed%2 == 0, 1+int(r.UintN(5)), int(r.UintN(5)))
		frames, read := 0, 0
		for range 150 {
			switch n := r.UintN(uint(6 + seed%7)); {
			case n == 0:
				h = impl.HostFlush(h)
			case n == 1:
				h = impl.HostTick(h)
			case n == 2:
				before := 0
				for _, q := range h.Rx {
					_, packets := hostReported(h, q)
					before += packets
				}
				h, _ = impl.HostService(h, 1+int(r.UintN(4)))
				for _, q := range h.Rx {
					_, packets := hostReported(h, q)
					before -= packets
				}
				read += before
			default:
				h = impl.HostReceive(h, randomFrame(r.Uint64()))
				frames++
			}
			c := h.Counters
			if c.Frames != frames || c.Frames != c.Bad+c.Filtered+c.Refused+c.Taken || !impl.HostOk(h) {
				t.Fatalf("seed %d: %+v after %d frames", seed, c, frames)
			}
			kept := read + impl.HostDropped(h)
			for k, q := range h.Rx {
				_, packets := hostReported(h, q)
				kept += packets + q.Held.Count
				if !impl.HasCompletion(h.Maps, h.Memory, 0, q) {
					continue
				}
				waited++
				if !h.Polling[k] && impl.TicksToInterrupt(h.Vectors[k]) < 0 {
					t.Fatalf("seed %d: queue %d has a completion, and no interrupt comes: %+v", seed, k, h.Vectors[k])
				}
			}
			if kept != c.Taken {
				t.Fatalf("seed %d: %d packets were taken, %d are accounted for", seed, c.Taken, kept)
			}
		}
		dropped += impl.HostDropped(h)
	}
	if waited < 1000 || dropped == 0 {
		t.Errorf("completions waited %d times, %d packets were dropped", waited, dropped)
	}
}

// hostReported are the buffers of completions in a host that were not read, and how many packets they hold.
func hostReported(h impl.Host, q impl.RxQueue) ([]int, int) {
	var cookies []int
	packets := 0
	for {
		x, driver, ok := impl.NextCompletion(h.Maps, h.Memory, 0, q.Driver)
		if !ok {
			return cookies, packets
		}
		cookies, packets, q.Driver = append(cookies, x.Cookie), packets+x.Count, driver
	}
}
