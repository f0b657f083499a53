package tests

import (
	"slices"
	"strings"
	"testing"

	"loop.example/g03312/impl"
)

// rxQueue is a receiving queue in domain 1 whose next four entries are buffers of 384 bytes, and its memory. Three
// completions were put and read before.
func rxQueue() (impl.Memory, impl.RxQueue) {
	list := identity(1, 20)
	m, _ := impl.WriteMemory(memory(20), 200, strings.Repeat("\x00", 64))
	device := impl.CompletionQueue{Base: 200, Size: 4}
	for range 3 {
		m, device, _ = impl.PutCompletion(list, m, 1, device, completion())
	}
	q := impl.RxQueue{Ring: impl.Ring{Base: 60, Size: 4, Head: 6, Tail: 6}, Device: device, Driver: device, Dropped: 5}
	for k := range 4 {
		m, q.Ring, _ = impl.RingPut(list, m, 1, q.Ring, postedBuffer(384, 400+400*k, 300+k))
	}
	return m, q
}

// postedBuffer is the entry of an empty buffer.
func postedBuffer(n int, at int, cookie int) string {
	return impl.EncodeDesc(impl.Desc{Op: impl.DescBuffer, Len: n, At: at, Cookie: cookie})
}

// holding is a queue that holds a super-packet.
func holding(q impl.RxQueue, s impl.Super) impl.RxQueue {
	q.Held, q.Holding = s, true
	return q
}

// manySupers are super-packets of all sorts.
func manySupers() []impl.Super {
	tagged := withTag(tcp(text(320)), 77)
	return []impl.Super{
		impl.Single(udp("")), impl.Single(tcp("")), impl.Single(udp(text(128))), impl.Single(tcp(text(320))), {Packet: tcp("abcdefg"), Size: 3, Count: 3},
		{Packet: tagged, Size: 1, Count: 320}, impl.Single(flagged(tcp("x"), impl.FlagSyn)), {Packet: udp("no super-packet"), Size: 320, Count: 7},
	}
}

func TestRxOk(t *testing.T) {
	_, q := rxQueue()
	base := func(q *impl.RxQueue, n int) { q.Device.Base, q.Driver.Base = n, n }
	fields := []field[impl.RxQueue]{
		{"Dropped", 0, 1000000000000, func(q *impl.RxQueue, n int) { q.Dropped = n }},
		{"Count of Device", 0, 7, func(q *impl.RxQueue, n int) { q.Device.Count = n }}, {"Count of Driver", 0, 7, func(q *impl.RxQueue, n int) { q.Driver.Count = n }},
		{"both Bases", 0, 1023 * 128, base}, {"Base of Device", 200, 200, func(q *impl.RxQueue, n int) { q.Device.Base = n }},
		{"Base of Driver", 200, 200, func(q *impl.RxQueue, n int) { q.Driver.Base = n }},
		{"Size of Device", 4, 4, func(q *impl.RxQueue, n int) { q.Device.Size = n }}, {"Size of Driver", 4, 4, func(q *impl.RxQueue, n int) { q.Driver.Size = n }},
		{"Base of Ring", 0, 1023 * 128, func(q *impl.RxQueue, n int) { q.Ring.Base = n }}, {"Tail of Ring", 0, 7, func(q *impl.RxQueue, n int) { q.Ring.Head, q.Ring.Tail = n, n }},
	}
	checkFields(t, q, fields, impl.RxOk)
	held := []field[impl.RxQueue]{
		{"Size of Held", 0, 320, func(q *impl.RxQueue, n int) { q.Held.Size = n }}, {"Count of Held", 1, 320, func(q *impl.RxQueue, n int) { q.Held.Count = n }},
		{"Id of Held", 0, most16, func(q *impl.RxQueue, n int) { q.Held.Packet.Id = n }},
	}
	for _, s := range manySupers() {
		checkFields(t, holding(q, s), append(slices.Clone(fields), held...), impl.RxOk)
		notHolding := holding(q, s)
		notHolding.Holding = false
		if impl.RxOk(notHolding) {
			t.Errorf("%+v is held by a queue that is not holding", s)
		}
	}
	for size := range 20 {
		sized := q
		sized.Ring, sized.Device.Size, sized.Driver.Size, sized.Device.Count, sized.Driver.Count = impl.Ring{Size: 2}, size, size, 0, 0
		if got := impl.RxOk(sized); got != slices.Contains([]int{2, 4, 8, 16}, size) {
			t.Errorf("completion queues of %d entries: got %v", size, got)
		}
	}
	for _, part := range []impl.Super{{Size: 1}, {Count: 1}, {Packet: impl.Packet{Ttl: 1}}, {Packet: impl.Packet{Vlan: -1}}} {
		bad := q
		bad.Held = part
		if impl.RxOk(bad) || impl.RxOk(holding(q, part)) {
			t.Errorf("%+v is accepted", part)
		}
	}
	if impl.RxOk(impl.RxQueue{}) || impl.RxOk(holding(q, impl.Super{})) || impl.RxOk(holding(q, impl.Single(udp(text(129))))) {
		t.Error("an invalid queue is accepted")
	}
	for _, r := range badRings() {
		bad := q
		bad.Ring = r
		if impl.RxOk(bad) {
			t.Errorf("the ring %+v is accepted", r)
		}
	}
}

// flushModel is FlushHeld as the document says it.
func flushModel(list []impl.Mapping, m impl.Memory, domain int, q impl.RxQueue, key string) (impl.Memory, impl.RxQueue) {
	if !impl.RxOk(q) || !q.Holding || len(key) != 16 {
		return m, q
	}
	s := q.Held
	q.Held, q.Holding = impl.Super{}, false
	entry, ring, _ := impl.RingTake(list, m, domain, q.Ring)
	q.Ring = ring
	buffer, ok := impl.DecodeDesc(entry)
	image, _ := impl.BuildImage(s.Packet)
	if ok && buffer.Op == 3 && buffer.Len >= len(image) {
		written, ok := writeModel(list, m, domain, buffer.At, image, true)
		x := impl.Completion{Cookie: buffer.Cookie, Len: len(image), Size: s.Size, Count: s.Count, Hash: hashOf(key, impl.HashInput(impl.FlowOf(s.Packet)))}
		if after, device, put := impl.PutCompletion(list, written, domain, q.Device, x); ok && put {
			q.Device = device
			return after, q
		}
	}
	q.Dropped += s.Count
	return m, q
}

// checkFlush compares FlushHeld with its model and returns whether the super-packet was written.
func checkFlush(t *testing.T, list []impl.Mapping, m impl.Memory, domain int, q impl.RxQueue, key string) bool {
	t.Helper()
	wantMemory, want := flushModel(list, m, domain, q, key)
	got, next := impl.FlushHeld(list, m, domain, q, key)
	if next != want || !sameMemory(got, wantMemory) {
		t.Errorf("FlushHeld of %+v: got %+v, want %+v", q, next, want)
	}
	return next.Device != q.Device
}

func TestFlushHeldWrites(t *testing.T) {
	list := identity(1, 20)
	for _, s := range manySupers() {
		m, q := rxQueue()
		if !checkFlush(t, list, m, 1, holding(q, s), rssKey) {
			t.Errorf("%+v is not written", s)
		}
		got, next := impl.FlushHeld(list, m, 1, holding(q, s), rssKey)
		image, _ := impl.BuildImage(s.Packet)
		x, driver, ok := impl.NextCompletion(list, got, 1, next.Driver)
		want := impl.Completion{Cookie: 300, Len: len(image), Size: s.Size, Count: s.Count, Hash: impl.HashFlow(rssKey, impl.FlowOf(s.Packet))}
		if x != want || !ok || driver != next.Device || next.Device.Count != 4 || next.Dropped != 5 || next.Ring.Head != 7 || next.Holding || !impl.RxOk(next) {
			t.Errorf("%+v: got %+v, %+v, %v", s, next, x, ok)
		}
		// Nothing else changes than the buffer and the completion.
		plain, _ := impl.WriteMemory(m, 400, image)
		plain, _ = impl.WriteMemory(plain, 200+16*3, impl.EncodeCompletion(want, 1))
		if !sameMemory(got, plain) {
			t.Errorf("%+v: other bytes are written", s)
		}
		checkPure(t, impl.FlushHeld, list, m, 1, holding(q, s), rssKey)
	}
}

func TestFlushHeldDrops(t *testing.T) {
	list := identity(1, 20)
	s := impl.Super{Packet: tcp("abcdefg"), Size: 3, Count: 3}
	image, _ := impl.BuildImage(s.Packet)
	entryAt := 60 + 16*2
	drop := func(name string, list []impl.Mapping, m impl.Memory, domain int, taken int, change func(*impl.RxQueue)) {
		t.Helper()
		_, q := rxQueue()
		q = holding(q, s)
		if change != nil {
			change(&q)
		}
		got, next := impl.FlushHeld(list, m, domain, q, rssKey)
		want := q
		want.Held, want.Holding, want.Dropped, want.Ring.Head = impl.Super{}, false, 8, (q.Ring.Head+taken)%8
		if next != want || !sameMemory(got, m) || checkFlush(t, list, m, domain, q, rssKey) {
			t.Errorf("%s: got %+v, want %+v", name, next, want)
		}
		checkPure(t, impl.FlushHeld, list, m, domain, q, rssKey)
	}
	m, q := rxQueue()
	for _, op := range []int{impl.DescFree, impl.DescData, impl.DescContext} {
		other, _ := impl.WriteMemory(m, entryAt, impl.EncodeDesc(impl.Desc{Op: op, Len: 384, At: 400}))
		drop("an entry of another operation", list, other, 1, 1, nil)
	}
	broken, _ := impl.WriteMemory(m, entryAt, "\x04")
	drop("no descriptor", list, broken, 1, 1, nil)
	for _, n := range []int{0, 1, len(image) - 1, len(image), len(image) + 1} {
		sized, _ := impl.WriteMemory(m, entryAt, postedBuffer(n, 400, 9))
		if n < len(image) {
			drop("a small buffer", list, sized, 1, 1, nil)
		} else if !checkFlush(t, list, sized, 1, holding(q, s), rssKey) {
			t.Errorf("a buffer of %d bytes is refused", n)
		}
	}
	for _, at := range []int{20*128 - len(image) + 1, 20 * 128, most32} {
		away, _ := impl.WriteMemory(m, entryAt, postedBuffer(384, at, 9))
		drop("a buffer that is not mapped", list, away, 1, 1, nil)
	}
	last, _ := impl.WriteMemory(m, entryAt, postedBuffer(384, 20*128-len(image), 9))
	if !checkFlush(t, list, last, 1, holding(q, s), rssKey) {
		t.Error("a buffer at the end of memory is refused")
	}
	readOnly := identity(1, 20)
	readOnly[3].Writable = false
	drop("a buffer that is read only", readOnly, m, 1, 1, nil)
	drop("a completion queue that is not mapped", list, m, 1, 1, func(q *impl.RxQueue) { q.Device.Base, q.Driver.Base = 3000, 3000 })
	closed := identity(1, 20)
	closed[1].Writable = false
	drop("a completion queue that is read only", closed, m, 1, 1, nil)
	drop("an empty ring", list, m, 1, 0, func(q *impl.RxQueue) { q.Ring.Tail = q.Ring.Head })
	drop("another domain", list, m, 2, 0, nil)
	drop("invalid mappings", append(list, list[0]), m, 1, 0, nil)
	short := copyOf(m)
	short.Pages[19] = "x"
	drop("an invalid memory", list, short, 1, 0, nil)
}

func TestFlushHeldRefuses(t *testing.T) {
	list := identity(1, 20)
	m, q := rxQueue()
	refuse := func(name string, q impl.RxQueue, key string) {
		t.Helper()
		if got, next := impl.FlushHeld(list, m, 1, q, key); next != q || !sameMemory(got, m) {
			t.Errorf("%s: got %+v", name, next)
		}
	}
	full := holding(q, impl.Single(tcp("a")))
	refuse("nothing held", q, rssKey)
	for _, n := range []int{0, 1, 15, 17, 32} {
		refuse("a key of another length", full, text(n))
	}
	for name, bad := range badRx() {
		refuse(name, bad, rssKey)
		checkPure(t, impl.FlushHeld, list, m, 1, bad, rssKey)
	}
}

// badRx are queues that are not valid.
func badRx() map[string]impl.RxQueue {
	_, q := rxQueue()
	full := holding(q, impl.Single(tcp("a")))
	ring, device, driver, base, dropped, negative, size, count, packet, held := full, full, full, full, full, full, full, full, full, full
	ring.Ring.Tail = 3
	device.Device.Count = 8
	driver.Driver.Size = 8
	base.Driver.Base++
	dropped.Dropped = 1000000000001
	negative.Dropped = -1
	size.Held.Size = 321
	count.Held.Count = 0
	packet.Held.Packet.Id = -1
	held.Holding = false
	return map[string]impl.RxQueue{
		"a ring": ring, "a device": device, "a driver": driver, "a base": base, "too many dropped": dropped, "a negative number": negative,
		"a size": size, "a count": count, "a packet": packet, "held, but not holding": held, "zero": {},
	}
}

// receiveModel is ReceivePacket as the document says it.
func receiveModel(list []impl.Mapping, m impl.Memory, domain int, q impl.RxQueue, key string, p impl.Packet, coalesce bool) (impl.Memory, impl.RxQueue) {
	if !impl.RxOk(q) || !impl.PacketOk(p) || len(key) != 16 {
		return m, q
	}
	if coalesce && q.Holding && impl.CanJoin(q.Held, p) {
		q.Held = impl.Join(q.Held, p)
		return m, q
	}
	m, q = flushModel(list, m, domain, q, key)
	q.Held, q.Holding = impl.Super{Packet: p, Size: len(p.Seg.Body), Count: 1}, true
	if !coalesce {
		m, q = flushModel(list, m, domain, q, key)
	}
	return m, q
}

func TestReceivePacket(t *testing.T) {
	list := identity(1, 20)
	joinable := impl.Split(tcp("abcdefgh"), 3)
	packets := append(joinable, udp(""), udp("abc"), tcp(""), flagged(tcp("x"), impl.FlagSyn), withTag(joinable[1], 3), tcp(text(128)), tcp(text(129)), impl.Packet{})
	for _, coalesce := range []bool{false, true} {
		for _, first := range packets {
			for _, second := range packets {
				m, q := rxQueue()
				if impl.PacketOk(first) {
					q = holding(q, impl.Single(first))
				}
				wantMemory, want := receiveModel(list, m, 1, q, rssKey, second, coalesce)
				got, next := impl.ReceivePacket(list, m, 1, q, rssKey, second, coalesce)
				if next != want || !sameMemory(got, wantMemory) {
					t.Errorf("%+v after %+v, coalescing %v: got %+v, want %+v", second, first, coalesce, next, want)
				}
			}
		}
	}
	m, q := rxQueue()
	_, one := impl.ReceivePacket(list, m, 1, q, rssKey, joinable[0], true)
	_, two := impl.ReceivePacket(list, m, 1, one, rssKey, joinable[1], true)
	joined := impl.Super{Packet: tcp("abcdef"), Size: 3, Count: 2}
	if !one.Holding || one.Held != impl.Single(joinable[0]) || two != holding(q, joined) {
		t.Errorf("two packets that follow one another: got %+v and %+v", one, two)
	}
	// A packet that could be joined is not, without coalescing: both are written.
	got, both := impl.ReceivePacket(list, m, 1, one, rssKey, joinable[1], false)
	if both.Holding || both.Device.Count != 5 || both.Ring.Head != 0 || sameMemory(got, m) {
		t.Errorf("without coalescing: got %+v", both)
	}
	checkPure(t, impl.ReceivePacket, list, m, 1, one, rssKey, joinable[1], false)
	checkPure(t, impl.ReceivePacket, list, m, 1, one, rssKey, joinable[1], true)
}

func TestReceivePacketRefuses(t *testing.T) {
	list := identity(1, 20)
	m, q := rxQueue()
	full := holding(q, impl.Single(tcp("a")))
	for _, coalesce := range []bool{false, true} {
		refuse := func(name string, q impl.RxQueue, key string, p impl.Packet) {
			t.Helper()
			if got, next := impl.ReceivePacket(list, m, 1, q, key, p, coalesce); next != q || !sameMemory(got, m) {
				t.Errorf("%s: got %+v", name, next)
			}
			checkPure(t, impl.ReceivePacket, list, m, 1, q, key, p, coalesce)
		}
		for name, bad := range badRx() {
			refuse(name, bad, rssKey, tcp("b"))
		}
		for _, n := range []int{0, 15, 17} {
			refuse("a key of another length", full, text(n), tcp("b"))
		}
		for _, p := range []impl.Packet{{}, tcp(text(129)), udp(text(129)), withTag(tcp(""), 4096)} {
			refuse("an invalid packet", full, rssKey, p)
		}
		// After the first FlushHeld too many packets are dropped, so that the second one changes nothing.
		many := holding(q, impl.Super{Packet: tcp("ab"), Size: 1, Count: 2})
		many.Dropped = 999999999999
		many.Ring.Tail = many.Ring.Head
		_, next := impl.ReceivePacket(list, m, 1, many, rssKey, udp("c"), coalesce)
		want := holding(many, impl.Single(udp("c")))
		want.Dropped = 1000000000001
		if next != want {
			t.Errorf("very many dropped packets: got %+v, want %+v", next, want)
		}
		many.Dropped--
		_, next = impl.ReceivePacket(list, m, 1, many, rssKey, udp("c"), coalesce)
		if next.Dropped != 1000000000000 && coalesce || next.Dropped != 1000000000001 && !coalesce || next.Holding != coalesce {
			t.Errorf("as many dropped packets as possible: got %+v", next)
		}
	}
}

// supersRead are the super-packets that completions report, and the queue after they were read.
func supersRead(t *testing.T, list []impl.Mapping, m impl.Memory, q impl.RxQueue, buffers map[int]int) ([]impl.Super, impl.RxQueue) {
	t.Helper()
	var supers []impl.Super
	for {
		x, driver, ok := impl.NextCompletion(list, m, 1, q.Driver)
		if !ok {
			return supers, q
		}
		q.Driver = driver
		image, _ := impl.DmaRead(list, m, 1, buffers[x.Cookie], x.Len)
		p, code := impl.ReadImage(image)
		if code != impl.FrameFine || x.Hash != impl.HashFlow(rssKey, impl.FlowOf(p)) {
			t.Fatalf("the completion %+v reports no packet: code %d", x, code)
		}
		supers = append(supers, impl.Super{Packet: p, Size: x.Size, Count: x.Count})
	}
}

func TestEveryPacketIsWrittenOrDropped(t *testing.T) {
	list := identity(1, 20)
	lost := 0
	for seed := range uint64(40) {
		r := newRandom(seed)
		coalesce, scarce := seed%2 == 0, seed%4 < 2
		m, q := rxQueue()
		q.Dropped = 0
		buffers := map[int]int{300: 400, 301: 800, 302: 1200, 303: 1600}
		next := 0
		want := impl.Coalesce(traffic(seed))
		if !coalesce {
			want = nil
			for _, p := range traffic(seed) {
				want = append(want, impl.Single(p))
			}
		}
		var got []impl.Super
		poll := func() {
			var more []impl.Super
			more, q = supersRead(t, list, m, q, buffers)
			got = append(got, more...)
			for impl.RingFree(q.Ring) > 0 && !(scarce && r.UintN(3) == 0) {
				m, q.Ring, _ = impl.RingPut(list, m, 1, q.Ring, postedBuffer(384, buffers[300+next%4], 300+next%4))
				next++
			}
		}
		for _, p := range traffic(seed) {
			m, q = impl.ReceivePacket(list, m, 1, q, rssKey, p, coalesce)
			if !impl.RxOk(q) || q.Holding != coalesce {
				t.Fatalf("seed %d: the queue %+v", seed, q)
			}
			poll()
		}
		m, q = impl.FlushHeld(list, m, 1, q, rssKey)
		poll()
		// What was written is what was coalesced, in order; what is missing was counted.
		missing, at := 0, 0
		for _, s := range want {
			if at < len(got) && got[at] == s {
				at++
			} else {
				missing += s.Count
			}
		}
		if at != len(got) || missing != q.Dropped || !scarce && missing > 0 {
			t.Errorf("seed %d: %d of %d super-packets were expected, %d packets missing, %d dropped", seed, at, len(got), missing, q.Dropped)
		}
		lost += missing
	}
	if lost == 0 {
		t.Error("nothing was dropped")
	}
}
