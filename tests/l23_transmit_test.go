package tests

import (
	"slices"
	"testing"

	"loop.example/g03312/impl"
)

// ringOf is a ring of eight slots in domain 1 with entries of descriptors, and its memory.
func ringOf(start int, list []impl.Desc) (impl.Memory, impl.Ring) {
	var all []string
	for _, x := range list {
		all = append(all, impl.EncodeDesc(x))
	}
	m, r, _ := impl.RingPutAll(identity(1, 12), memory(12), 1, impl.Ring{Base: 100, Size: 8, Head: start, Tail: start}, all)
	return m, r
}

// chain are the descriptors of a packet in pieces of five bytes from an address on.
func chain(at int, n int, cookie int) []impl.Desc {
	return impl.DescribePacket(impl.CutPieces(at, 5*n, 5), 50, cookie)
}

// emptied is a ring from which all entries were taken.
func emptied(r impl.Ring) impl.Ring {
	r.Head = r.Tail
	return r
}

func TestTransmitConstants(t *testing.T) {
	if impl.TxIdle != 0 || impl.TxDone != 1 || impl.TxBad != 2 {
		t.Error("other constants", impl.TxIdle, impl.TxDone, impl.TxBad)
	}
}

func TestTakeChain(t *testing.T) {
	data := impl.Desc{Op: impl.DescData, At: 9, Len: 8}
	ends := []impl.Desc{{Op: impl.DescData, Flags: 1}, {Op: impl.DescData, Flags: 3, Size: 7}}
	goesOn := []impl.Desc{
		data, {Op: impl.DescData, Flags: 2}, {Op: impl.DescContext, Flags: 1}, {Op: impl.DescBuffer, Flags: 1}, {Flags: 1},
		{Op: impl.DescContext, Flags: 3}, {},
	}
	check := func(list []impl.Desc, n int) {
		t.Helper()
		for start := range 16 {
			m, r := ringOf(start, list)
			want := r
			want.Head = (start + n) % 16
			got, next, ok := impl.TakeChain(identity(1, 12), m, 1, r)
			if !ok || next != want || !slices.Equal(got, list[:n]) {
				t.Errorf("%+v from %d on: got %+v, %+v, %v", list, start, got, next, ok)
			}
		}
	}
	for _, end := range ends {
		check([]impl.Desc{end}, 1)
		check([]impl.Desc{end, data, end}, 1)
		check([]impl.Desc{end, end}, 1)
		for _, x := range goesOn {
			check([]impl.Desc{x, end}, 2)
			check([]impl.Desc{x, x, end, x, end}, 3)
		}
	}
	check(goesOn, 7)
	check(append(goesOn, ends[0]), 8)
	check([]impl.Desc{data}, 1)
	check(append(chain(500, 3, 1), chain(600, 2, 2)...), 4)
}

func TestTakeChainRefuses(t *testing.T) {
	list := identity(1, 12)
	m, r := ringOf(3, chain(500, 3, 1))
	empty := func(name string, list []impl.Mapping, m impl.Memory, domain int, r impl.Ring) {
		t.Helper()
		if got, next, ok := impl.TakeChain(list, m, domain, r); ok || got != nil || next != emptied(r) {
			t.Errorf("%s: got %+v, %+v, %v", name, got, next, ok)
		}
		if next, frames, code := impl.TransmitNext(list, m, domain, r); next != emptied(r) || frames != nil || code != impl.TxBad {
			t.Errorf("%s: TransmitNext returns %+v, %d frames, %d", name, next, len(frames), code)
		}
		if next, frames, done, bad := impl.TransmitAll(list, m, domain, r); next != emptied(r) || len(frames) != 0 || done != 0 || bad != 1 {
			t.Errorf("%s: TransmitAll returns %+v, %d frames, %d, %d", name, next, len(frames), done, bad)
		}
	}
	empty("another domain", list, m, 2, r)
	empty("no such memory", list, memory(0), 1, r)
	empty("invalid mappings", append(list, list[0]), m, 1, r)
	short := memory(12)
	short.Pages[11] = "x"
	empty("an invalid memory", list, short, 1, r)
	// The ring begins in page 0 and goes on in page 1, which is not mapped.
	next, rest := ringOf(0, chain(500, 6, 1))
	empty("the second half of the ring is not mapped", list[:1], next, 1, rest)
	for at := range 4 {
		bad, _ := impl.WriteMemory(m, 100+16*(3+at), "\x04")
		empty("no descriptor", list, bad, 1, r)
		bad, _ = impl.WriteMemory(m, 100+16*(3+at)+15, "\x01")
		empty("no descriptor", list, bad, 1, r)
	}
	// What comes behind the end of a packet is not looked at.
	m, r = ringOf(3, append(chain(500, 2, 1), chain(500, 2, 1)...))
	bad, _ := impl.WriteMemory(m, 100+16*6, "\x04")
	if got, next, ok := impl.TakeChain(list, bad, 1, r); !ok || !slices.Equal(got, chain(500, 2, 1)) || next.Head != 6 {
		t.Errorf("a bad entry behind the end: got %+v, %+v, %v", got, next, ok)
	}
	for _, ring := range append(badRings(), emptied(r), impl.Ring{Size: 4}) {
		if got, next, ok := impl.TakeChain(list, m, 1, ring); ok || got != nil || next != ring {
			t.Errorf("%+v: got %+v, %+v, %v", ring, got, next, ok)
		}
		if next, frames, code := impl.TransmitNext(list, m, 1, ring); next != ring || frames != nil || code != impl.TxIdle {
			t.Errorf("%+v: TransmitNext returns %+v, %d frames, %d", ring, next, len(frames), code)
		}
		if next, frames, done, bad := impl.TransmitAll(list, m, 1, ring); next != ring || len(frames) != 0 || done != 0 || bad != 0 {
			t.Errorf("%+v: TransmitAll returns %+v, %d frames, %d, %d", ring, next, len(frames), done, bad)
		}
	}
	checkPure(t, impl.TakeChain, list, m, 1, r)
	checkPure(t, impl.TransmitNext, list, m, 1, r)
	checkPure(t, impl.TransmitAll, list, m, 1, r)
}

// placed writes the template of a packet to an address and returns its descriptors, in pieces of a size.
func placed(m impl.Memory, at int, p impl.Packet, cut int, size int) (impl.Memory, []impl.Desc) {
	s, _ := impl.Template(p)
	m, _ = impl.WriteMemory(m, at, s)
	return m, impl.DescribePacket(impl.CutPieces(at, len(s), cut), size, 3)
}

// withRing puts descriptors into a ring of sixteen slots at address 0.
func withRing(m impl.Memory, list []impl.Desc) (impl.Memory, impl.Ring) {
	var all []string
	for _, x := range list {
		all = append(all, impl.EncodeDesc(x))
	}
	m, r, _ := impl.RingPutAll(identity(1, 12), m, 1, impl.Ring{Size: 16, Head: 20, Tail: 20}, all)
	return m, r
}

func TestTransmitNext(t *testing.T) {
	list := identity(1, 12)
	packets := []impl.Packet{tcp(""), tcp("hello"), flagged(tcp(text(320)), impl.FlagAck+impl.FlagFin), udp(""), udp(text(128)), withTag(tcp(text(130)), 4), flagged(tcp("a"), impl.FlagSyn)}
	for _, p := range packets {
		for _, cut := range []int{27, 50, 64, 400} {
			for _, size := range []int{1, 7, 100, 128} {
				m, descs := placed(memory(12), 500, p, cut, size)
				m, r := withRing(m, descs)
				next, frames, code := impl.TransmitNext(list, m, 1, r)
				if next != emptied(r) || code != impl.TxDone || !slices.Equal(frames, impl.SendFrames(p, size)) {
					t.Errorf("%+v in pieces of %d: got %d frames, %d", p, cut, len(frames), code)
				}
			}
		}
	}
	// The pieces need not follow one another.
	s, _ := impl.Template(tcp("hello"))
	m, _ := impl.WriteMemory(memory(12), 900, s[:20])
	m, _ = impl.WriteMemory(m, 500, s[20:])
	m, r := withRing(m, impl.DescribePacket([]impl.Piece{{At: 900, Len: 20}, {At: 700}, {At: 500, Len: len(s) - 20}}, 2, 9))
	if _, frames, code := impl.TransmitNext(list, m, 1, r); code != impl.TxDone || !slices.Equal(frames, impl.SendFrames(tcp("hello"), 2)) {
		t.Errorf("pieces in another order: got %d frames, %d", len(frames), code)
	}
}

func TestTransmitNextOfBadPackets(t *testing.T) {
	list := identity(1, 12)
	fine, descs := placed(memory(12), 500, tcp("hello"), 30, 2)
	bad := func(name string, m impl.Memory, descs []impl.Desc) {
		t.Helper()
		m, r := withRing(m, descs)
		if next, frames, code := impl.TransmitNext(list, m, 1, r); next != emptied(r) || frames != nil || code != impl.TxBad {
			t.Errorf("%s: got %+v, %d frames, %d", name, next, len(frames), code)
		}
		if next, frames, done, wrong := impl.TransmitAll(list, m, 1, r); next != emptied(r) || len(frames) != 0 || done != 0 || wrong != 1 {
			t.Errorf("%s: TransmitAll returns %+v, %d frames, %d, %d", name, next, len(frames), done, wrong)
		}
	}
	bad("no context", fine, descs[1:])
	bad("a context only", fine, descs[:1])
	bad("no end", fine, descs[:2])
	changes := []func([]impl.Desc){
		func(l []impl.Desc) { l[0].Size = 0 }, func(l []impl.Desc) { l[0].Size = 129 }, func(l []impl.Desc) { l[1].Cookie++ },
		func(l []impl.Desc) { l[len(l)-1].Flags = 3 }, func(l []impl.Desc) { l[1].At = 12 * 128 }, func(l []impl.Desc) { l[1].At = most32 },
		func(l []impl.Desc) { l[1].Len-- }, func(l []impl.Desc) { l[1].Len++ }, func(l []impl.Desc) { l[1].At++ }, func(l []impl.Desc) { l[1].Len = 4097 },
		func(l []impl.Desc) { l[1].Op = impl.DescBuffer },
	}
	for i, change := range changes {
		changed := slices.Clone(descs)
		change(changed)
		bad("changed descriptors "+impl.FormatInt(i), fine, changed)
	}
	image, _ := impl.BuildImage(tcp("hello"))
	m, _ := impl.WriteMemory(memory(12), 500, image)
	bad("an image in place of a template", m, descs)
	bad("another memory", memory(12), descs)
}

func TestTransmitAll(t *testing.T) {
	// A bad packet between two good ones is left out, and so is what has no end.
	m, first := placed(memory(12), 500, tcp("hello"), 30, 2)
	m, second := placed(m, 700, udp("datagram"), 30, 128)
	wrong := slices.Clone(first)
	wrong[1].Cookie++
	m, r := withRing(m, slices.Concat(first, wrong, second, second[:2]))
	want := append(impl.SendFrames(tcp("hello"), 2), impl.SendFrames(udp("datagram"), 128)...)
	next, frames, done, bad := impl.TransmitAll(identity(1, 12), m, 1, r)
	if next != emptied(r) || !slices.Equal(frames, want) || done != 2 || bad != 2 {
		t.Errorf("got %+v, %d frames, %d, %d", next, len(frames), done, bad)
	}
	checkPure(t, impl.TransmitAll, identity(1, 12), m, 1, r)
	checkPure(t, impl.TransmitNext, identity(1, 12), m, 1, r)
}

// scattered is a sending queue whose device pages lie in another order in memory.
func scattered() ([]impl.Mapping, impl.TxQueue) {
	var list []impl.Mapping
	for v := range 12 {
		list = append(list, impl.Mapping{Domain: 4, Virtual: 2 * v, Physical: 11 - v, Writable: v < 2}, impl.Mapping{Domain: 4, Virtual: 2*v + 1, Physical: 12 + v, Writable: v < 2})
	}
	p, _ := impl.NewPool(600, 120, 12)
	return list, impl.TxQueue{Ring: impl.Ring{Base: 100, Size: 16, Head: 7, Tail: 7}, Pool: p, Next: 65530}
}

func TestTheCardSendsWhatSoftwareWould(t *testing.T) {
	total := 0
	for seed := range uint64(80) {
		r := newRandom(seed)
		list, q := scattered()
		m := memory(24)
		var want []string
		for range 30 {
			var frames []string
			sent := 0
			for range 1 + r.UintN(4) {
				p := flagged(tcp(randomText(r, int(r.UintN(321)))), impl.FlagAck+int(r.UintN(2))*impl.FlagPsh)
				if r.UintN(3) == 0 {
					p = udp(randomText(r, int(r.UintN(129))))
				}
				p.Vlan, p.Id = int(r.UintN(3))-1, int(r.UintN(65536))
				size, cut := 1+int(r.UintN(128)), 20+int(r.UintN(101))
				after, next, ok := impl.SendPacket(list, m, 4, q, p, size, cut)
				if ok {
					frames = append(frames, impl.SendFrames(p, size)...)
					sent++
				}
				m, q = after, next
			}
			ring, got, done, bad := impl.TransmitAll(list, m, 4, q.Ring)
			if !slices.Equal(got, frames) || done != sent || bad != 0 || ring != emptied(q.Ring) {
				t.Fatalf("seed %d: %d packets became %d frames instead of %d (%d, %d)", seed, sent, len(got), len(frames), done, bad)
			}
			// Once sent, they are not sent again.
			if _, more, again, worse := impl.TransmitAll(list, m, 4, ring); len(more) != 0 || again != 0 || worse != 0 {
				t.Fatalf("seed %d: %d frames are sent twice", seed, len(more))
			}
			q.Ring = ring
			var cookies []int
			q, cookies = impl.CompletePackets(q, done)
			if len(cookies) != sent || len(q.Waiting) != 0 || len(q.Pool.Free) != 12 {
				t.Fatalf("seed %d: %d of %d packets are completed", seed, len(cookies), sent)
			}
			want = append(want, frames...)
			total += sent
		}
		if len(want) == 0 {
			t.Errorf("seed %d: nothing was sent", seed)
		}
	}
	if total < 3000 {
		t.Errorf("only %d packets were sent", total)
	}
}
