package tests

import (
	"slices"
	"strings"
	"testing"

	"loop.example/g03312/impl"
)

// postModel is FillRing as the document says it.
func postModel(list []impl.Mapping, m impl.Memory, domain int, r impl.Ring, p impl.Pool) (impl.Memory, impl.Ring, impl.Pool, int) {
	if !impl.RingOk(r) || !impl.PoolOk(p) {
		return m, r, p, 0
	}
	posted := 0
	for len(p.Free) > 0 {
		k := p.Free[0]
		after, ring, ok := impl.RingPut(list, m, domain, r, postedBuffer(p.Size, p.Base+k*p.Size, k))
		if !ok {
			break
		}
		m, r, p.Free = after, ring, p.Free[1:]
		posted++
	}
	return m, r, p, posted
}

func checkPost(t *testing.T, list []impl.Mapping, m impl.Memory, domain int, r impl.Ring, p impl.Pool) int {
	t.Helper()
	wantMemory, wantRing, wantPool, want := postModel(list, m, domain, r, p)
	after, ring, rest, posted := impl.FillRing(list, m, domain, r, p)
	if !sameMemory(after, wantMemory) || ring != wantRing || !samePool(rest, wantPool) || posted != want {
		t.Errorf("FillRing of %+v from %+v: got %+v, %+v, %d, want %+v, %+v, %d", r, p, ring, rest, posted, wantRing, wantPool, want)
	}
	return posted
}

func TestFillRing(t *testing.T) {
	if impl.RxBuffer != 384 {
		t.Error("another constant", impl.RxBuffer)
	}
	list := identity(1, 20)
	for _, size := range []int{2, 4, 8, 16} {
		for head := range 2 * size {
			for n := range size + 1 {
				r := impl.Ring{Base: 120, Size: size, Head: head, Tail: (head + n) % (2 * size)}
				if got := checkPost(t, list, memory(20), 1, r, pool()); got != min(size-n, 3) {
					t.Errorf("%+v: %d buffers were posted", r, got)
				}
			}
		}
	}
	for n := range 5 {
		p := pool()
		p.Free = []int{2, 0, 3, 1}[:n]
		m, r, rest, posted := impl.FillRing(list, memory(20), 1, impl.Ring{Base: 120, Size: 4, Head: 3, Tail: 4}, p)
		free := min(n, 3)
		if posted != free || !slices.Equal(rest.Free, p.Free[free:]) || r.Tail != 4+free || r.Head != 3 {
			t.Errorf("%d free buffers: got %+v, %+v, %d", n, r, rest, posted)
		}
		for k, b := range p.Free[:free] {
			s, _ := impl.ReadMemory(m, 120+16*k, 16)
			if x, _ := impl.DecodeDesc(s); x != (impl.Desc{Op: impl.DescBuffer, Len: 100, At: 512 + 100*b, Cookie: b}) {
				t.Errorf("buffer %d is posted as %+v", b, x)
			}
		}
		checkPure(t, impl.FillRing, list, memory(20), 1, impl.Ring{Base: 120, Size: 4, Head: 3, Tail: 4}, p)
	}
}

func TestFillRingEnds(t *testing.T) {
	// The slots 0 and 1 are in page 0; slot 1 goes on in page 1, as the slots 2 and 3 do.
	r := impl.Ring{Base: 100, Size: 4}
	closed := identity(1, 20)
	closed[1].Writable = false
	for head, want := range []int{1, 0, 0, 0, 1, 0, 0, 0} {
		r.Head, r.Tail = head, head
		if got := checkPost(t, closed, memory(20), 1, r, pool()); got != want {
			t.Errorf("from %d on: %d buffers were posted", head, got)
		}
		checkPure(t, impl.FillRing, closed, memory(20), 1, r, pool())
	}
	list := identity(1, 20)
	checkPost(t, list, memory(20), 2, r, pool())
	checkPost(t, append(list, list[0]), memory(20), 1, r, pool())
	checkPost(t, list, memory(0), 1, r, pool())
	for _, bad := range badRings() {
		if got := checkPost(t, list, memory(20), 1, bad, pool()); got != 0 {
			t.Errorf("%d buffers were posted to %+v", got, bad)
		}
		checkPure(t, impl.FillRing, list, memory(20), 1, bad, pool())
	}
	for _, bad := range badPools() {
		if got := checkPost(t, list, memory(20), 1, r, bad); got != 0 {
			t.Errorf("%d buffers of %+v were posted", got, bad)
		}
		checkPure(t, impl.FillRing, list, memory(20), 1, r, bad)
	}
}

// rxPool is the pool of rxQueue after all its buffers were posted.
func rxPool() impl.Pool { return impl.Pool{Base: 400, Size: 400, Count: 4} }

// report writes an image to a buffer and a completion to the queue.
func report(m impl.Memory, q impl.RxQueue, at int, image string, x impl.Completion) (impl.Memory, impl.RxQueue) {
	m, _ = impl.WriteMemory(m, at, image)
	m, q.Device, _ = impl.PutCompletion(identity(1, 20), m, 1, q.Device, x)
	return m, q
}

// pollModel is PollQueue as the document says it.
func pollModel(list []impl.Mapping, m impl.Memory, domain int, q impl.RxQueue, p impl.Pool, streams []impl.Stream, budget int) (impl.Memory, impl.RxQueue, impl.Pool, []impl.Stream, int) {
	if !impl.RxOk(q) || !impl.PoolOk(p) || budget < 0 || budget > 1000 {
		return m, q, p, streams, 0
	}
	n := 0
	for ; n < budget; n++ {
		x, driver, ok := impl.NextCompletion(list, m, domain, q.Driver)
		if !ok {
			break
		}
		q.Driver = driver
		if x.Cookie >= p.Count {
			continue
		}
		image, ok := readModel(list, m, domain, p.Base+x.Cookie*p.Size, x.Len)
		if packet, code := impl.ReadImage(image); ok && x.Len <= 4096 && code == impl.FrameFine {
			streams = impl.Deliver(streams, packet)
		}
		if !slices.Contains(p.Free, x.Cookie) {
			p.Free = append(slices.Clone(p.Free), x.Cookie)
		}
	}
	m, q.Ring, p, _ = postModel(list, m, domain, q.Ring, p)
	return m, q, p, streams, n
}

func checkPoll(t *testing.T, list []impl.Mapping, m impl.Memory, domain int, q impl.RxQueue, p impl.Pool, streams []impl.Stream, budget int) (impl.Memory, impl.RxQueue, impl.Pool, []impl.Stream, int) {
	t.Helper()
	wantMemory, want, wantPool, wantStreams, wantDone := pollModel(list, m, domain, q, p, streams, budget)
	after, next, rest, got, done := impl.PollQueue(list, m, domain, q, p, streams, budget)
	if !sameMemory(after, wantMemory) || next != want || !samePool(rest, wantPool) || !slices.Equal(got, wantStreams) || done != wantDone {
		t.Errorf("PollQueue of %+v with %+v: got %+v, %+v, %+v, %d, want %+v, %+v, %+v, %d", q, p, next, rest, got, done, want, wantPool, wantStreams, wantDone)
	}
	return after, next, rest, got, done
}

func TestPollQueue(t *testing.T) {
	list := identity(1, 20)
	m, q := rxQueue()
	q.Ring.Head = q.Ring.Tail
	f := impl.FlowOf(tcp(""))
	old := []impl.Stream{{Flow: f, Next: 1000}}
	want := []string{"", "one", "onetwo", "onetwothree", "onetwothree"}
	body := ""
	for k, part := range []string{"one", "two", "three"} {
		p := tcp(part)
		p.Seg.Seq += len(body)
		body += part
		image, _ := impl.BuildImage(p)
		m, q = report(m, q, 400+400*k, image, impl.Completion{Cookie: k, Len: len(image), Size: 3, Count: 1})
	}
	for budget := range 5 {
		_, next, rest, streams, done := checkPoll(t, list, m, 1, q, rxPool(), old, budget)
		if impl.DataOf(streams, f) != want[budget] || done != min(budget, 3) || impl.RingUsed(next.Ring) != done || len(rest.Free) != 0 {
			t.Errorf("the budget %d: got %+v, %+v, %+v, %d", budget, next, rest, streams, done)
		}
		if left := impl.HasCompletion(list, m, 1, next); left != (budget < 3) {
			t.Errorf("the budget %d: HasCompletion returns %v", budget, left)
		}
		checkPure(t, impl.PollQueue, list, m, 1, q, rxPool(), old, budget)
	}
	for _, budget := range []int{999, 1000} {
		if _, _, _, _, done := checkPoll(t, list, m, 1, q, rxPool(), old, budget); done != 3 {
			t.Errorf("the budget %d: got %d", budget, done)
		}
	}
	// Without a stream, TCP delivers nothing, but the buffers come back.
	if _, next, _, streams, done := checkPoll(t, list, m, 1, q, rxPool(), nil, 9); len(streams) != 0 || done != 3 || impl.RingUsed(next.Ring) != 3 {
		t.Errorf("without a stream: got %+v, %+v, %d", next, streams, done)
	}
	// Also without a completion, free buffers are posted.
	free := rxPool()
	free.Free = []int{3}
	if _, next, rest, _, done := checkPoll(t, list, m, 1, q, free, nil, 0); done != 0 || impl.RingUsed(next.Ring) != 1 || len(rest.Free) != 0 {
		t.Errorf("with the budget 0: got %+v, %+v, %d", next, rest, done)
	}
}

func TestPollQueueOfOddCompletions(t *testing.T) {
	list := identity(1, 20)
	image, _ := impl.BuildImage(udp("odd"))
	n := len(image)
	cases := []struct {
		name      string
		x         impl.Completion
		delivered bool
		back      bool
	}{
		{"an image", impl.Completion{Cookie: 1, Len: n}, true, true}, {"a longer image", impl.Completion{Cookie: 1, Len: n + 1}, true, true},
		{"a shorter image", impl.Completion{Cookie: 1, Len: 20}, false, true}, {"no image", impl.Completion{Cookie: 1}, false, true},
		{"an empty buffer", impl.Completion{Cookie: 0, Len: n}, false, true},
		{"more than the buffer", impl.Completion{Cookie: 1, Len: 1500}, false, true}, {"a very long image", impl.Completion{Cookie: 1, Len: most16}, false, true},
		{"a buffer that is free", impl.Completion{Cookie: 2, Len: n}, true, false}, {"no buffer", impl.Completion{Cookie: 4, Len: n}, false, false},
		{"no buffer and no length", impl.Completion{Cookie: 4}, false, false}, {"a far buffer", impl.Completion{Cookie: most16, Len: n}, false, false},
	}
	for _, c := range cases {
		m, q := rxQueue()
		q.Ring.Tail = q.Ring.Head + 1
		p := rxPool()
		p.Free = []int{2}
		m, _ = impl.WriteMemory(m, 800, image+strings.Repeat("\x00", 20))
		m, q = report(m, q, 1200, image, c.x)
		_, next, rest, streams, done := checkPoll(t, list, m, 1, q, p, nil, 5)
		posted := 1
		if c.back {
			posted = 2
		}
		if done != 1 || (len(streams) == 1) != c.delivered || len(rest.Free) != 0 || impl.RingUsed(next.Ring) != 1+posted || next.Driver != q.Device {
			t.Errorf("%s: got %+v, %+v, %+v, %d", c.name, next, rest, streams, done)
		}
		if !impl.HasCompletion(list, m, 1, q) || impl.HasCompletion(list, m, 1, next) {
			t.Errorf("%s: HasCompletion is wrong", c.name)
		}
		checkPure(t, impl.PollQueue, list, m, 1, q, p, []impl.Stream{{Data: "x"}}, 5)
	}
	// A buffer that is not mapped is given back, too.
	m, q := rxQueue()
	m, q = report(m, q, 0, "", impl.Completion{Cookie: 3, Len: n})
	if _, _, rest, streams, done := checkPoll(t, list[:12], m, 1, q, rxPool(), nil, 5); done != 1 || len(streams) != 0 || !slices.Equal(rest.Free, []int{3}) {
		t.Errorf("a buffer that is not mapped: got %+v, %+v, %d", rest, streams, done)
	}
}

func TestPollQueueRefuses(t *testing.T) {
	list := identity(1, 20)
	image, _ := impl.BuildImage(udp("x"))
	m, q := rxQueue()
	m, q = report(m, q, 800, image, impl.Completion{Cookie: 1, Len: len(image)})
	streams := []impl.Stream{{Data: "kept"}}
	refuse := func(name string, q impl.RxQueue, p impl.Pool, budget int) {
		t.Helper()
		after, next, rest, got, done := impl.PollQueue(list, m, 1, q, p, streams, budget)
		if !sameMemory(after, m) || next != q || !samePool(rest, p) || !slices.Equal(got, streams) || done != 0 {
			t.Errorf("%s: got %+v, %+v, %+v, %d", name, next, rest, got, done)
		}
		checkPure(t, impl.PollQueue, list, m, 1, q, p, streams, budget)
	}
	free := rxPool()
	free.Free = []int{3}
	q.Ring.Tail = q.Ring.Head
	for _, budget := range append([]int{-1, 1001}, far...) {
		refuse("another budget", q, free, budget)
	}
	for name, bad := range badRx() {
		refuse(name, bad, free, 5)
		if impl.HasCompletion(list, m, 1, bad) {
			t.Errorf("%s: there is a completion", name)
		}
	}
	for _, bad := range badPools() {
		refuse("an invalid pool", q, bad, 5)
	}
	full := holding(q, impl.Single(tcp("held")))
	for _, x := range []impl.RxQueue{q, full} {
		if !impl.HasCompletion(list, m, 1, x) || impl.HasCompletion(list, m, 2, x) || impl.HasCompletion(nil, m, 1, x) || impl.HasCompletion(list, memory(0), 1, x) {
			t.Error("HasCompletion is wrong")
		}
	}
	checkPure(t, impl.HasCompletion, list, m, 1, q)
}

// postedCookies are the buffers that wait in a ring.
func postedCookies(list []impl.Mapping, m impl.Memory, r impl.Ring) []int {
	var cookies []int
	for impl.RingUsed(r) > 0 {
		entry, next, _ := impl.RingTake(list, m, 1, r)
		x, _ := impl.DecodeDesc(entry)
		cookies = append(cookies, x.Cookie)
		r = next
	}
	return cookies
}

// reportedCookies are the buffers of completions that were not read, and how many packets they hold.
func reportedCookies(list []impl.Mapping, m impl.Memory, q impl.RxQueue) ([]int, int) {
	var cookies []int
	packets := 0
	for {
		x, driver, ok := impl.NextCompletion(list, m, 1, q.Driver)
		if !ok {
			return cookies, packets
		}
		cookies, packets, q.Driver = append(cookies, x.Cookie), packets+x.Count, driver
	}
}

// openedTraffic is traffic whose streams are opened.
func openedTraffic(seed uint64) []impl.Packet {
	list := traffic(seed)
	r := newRandom(seed + 1000)
	for port := range 2 {
		p := flagged(tcp(""), impl.FlagSyn)
		p.Seg.SrcPort, p.Seg.Seq = port, most32-int(r.UintN(300))-1
		list = slices.Insert(list, 0, p)
	}
	return list
}

func TestNoPacketAndNoBufferIsLost(t *testing.T) {
	list := identity(1, 20)
	dropped, delivered := 0, 0
	for seed := range uint64(40) {
		r := newRandom(seed)
		start := impl.CompletionQueue{Base: 200, Size: 4}
		q := impl.RxQueue{Ring: impl.Ring{Base: 60, Size: []int{2, 4, 8}[seed%3]}, Device: start, Driver: start}
		p, _ := impl.NewPool(400, 400, 4)
		m := impl.NewMemory(20)
		m, q.Ring, p, _ = impl.FillRing(list, m, 1, q.Ring, p)
		var streams []impl.Stream
		packets := openedTraffic(seed)
		if seed%2 == 0 {
			packets = shuffledFlows(seed)
			packets = slices.DeleteFunc(packets, func(p impl.Packet) bool { return !impl.PacketOk(p) })
		}
		seen, read := 0, 0
		check := func() {
			t.Helper()
			reported, waiting := reportedCookies(list, m, q)
			all := slices.Concat(p.Free, postedCookies(list, m, q.Ring), reported)
			slices.Sort(all)
			if !slices.Equal(all, []int{0, 1, 2, 3}) {
				t.Fatalf("seed %d: the buffers are %v", seed, all)
			}
			if seen != read+waiting+q.Held.Count+q.Dropped {
				t.Fatalf("seed %d: of %d packets, %d were read, %d wait, %d are held and %d were dropped", seed, seen, read, waiting, q.Held.Count, q.Dropped)
			}
		}
		poll := func(budget int) {
			_, before := reportedCookies(list, m, q)
			m, q, p, streams, _ = checkPoll(t, list, m, 1, q, p, streams, budget)
			_, after := reportedCookies(list, m, q)
			read += before - after
			check()
		}
		patient := seed%4 < 2
		for _, packet := range packets {
			m, q = impl.ReceivePacket(list, m, 1, q, rssKey, packet, r.UintN(3) > 0)
			seen++
			check()
			if patient {
				poll(4)
			} else if r.UintN(3) == 0 {
				poll(int(r.UintN(4)))
			}
		}
		m, q = impl.FlushHeld(list, m, 1, q, rssKey)
		poll(1000)
		if patient && q.Dropped > 0 {
			t.Errorf("seed %d: %d packets were dropped", seed, q.Dropped)
		}
		if want := impl.DeliverAll(nil, packets); q.Dropped == 0 && !slices.Equal(streams, want) {
			t.Errorf("seed %d: the streams differ from those of the packets", seed)
		}
		dropped += q.Dropped
		for _, s := range streams {
			delivered += len(s.Data)
		}
	}
	if dropped == 0 || delivered < 40*500 {
		t.Errorf("%d packets were dropped, %d bytes delivered", dropped, delivered)
	}
}
