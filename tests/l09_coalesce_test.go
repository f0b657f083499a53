package tests

import (
	"slices"
	"testing"

	"loop.example/g03312/impl"
)

// joint is a super-packet of three pieces of ten bytes with the packet that comes next.
func joint() (impl.Super, impl.Packet) {
	s := impl.Super{Packet: tcp(text(30)), Size: 10, Count: 3}
	p := tcp("0123456789")
	p.Seg.Seq += 30
	p.Id += 3
	return s, p
}

func checkJoin(t *testing.T, name string, s impl.Super, p impl.Packet, can bool) {
	t.Helper()
	want := s
	if can {
		want.Packet.Seg.Body += p.Seg.Body
		want.Packet.Seg.Flags = p.Seg.Flags
		want.Count++
	}
	if got := impl.CanJoin(s, p); got != can {
		t.Errorf("%s: CanJoin is %v", name, got)
	}
	if got := impl.Join(s, p); got != want {
		t.Errorf("%s: Join returns %+v, want %+v", name, got, want)
	}
}

func TestSingle(t *testing.T) {
	bad := tcp("abc")
	bad.Vlan = -2
	for _, p := range []impl.Packet{tcp("abc"), tcp(""), tcp(text(320)), udp("abcd"), bad, {}} {
		if got := impl.Single(p); got != (impl.Super{Packet: p, Size: len(p.Seg.Body), Count: 1}) {
			t.Errorf("Single of %+v: got %+v", p, got)
		}
	}
}

func TestJoin(t *testing.T) {
	s, p := joint()
	checkJoin(t, "the next packet", s, p, true)
	for n := range 12 {
		shorter := p
		shorter.Seg.Body = text(n)
		checkJoin(t, "a packet with "+impl.FormatInt(n)+" bytes", s, shorter, n >= 1 && n <= 10)
	}
	for flags := range 32 {
		data := flags == 16 || flags == 16+1 || flags == 16+8 || flags == 16+8+1
		checkJoin(t, "a packet with the flags "+impl.FormatInt(flags), s, flagged(p, flags), data)
		other := s
		other.Packet.Seg.Flags = flags
		checkJoin(t, "a super-packet with the flags "+impl.FormatInt(flags), other, p, flags == 16)
	}
}

func TestJoinNumbers(t *testing.T) {
	for _, by := range []int{-1 << 32, -1 << 16, -30, -10, -3, -1, 1, 3, 10, 30, 1 << 16, 1 << 32} {
		s, p := joint()
		p.Seg.Seq += by
		checkJoin(t, "another Seq", s, p, false)
		s, p = joint()
		p.Id += by
		checkJoin(t, "another Id", s, p, false)
	}
	s, p := joint()
	s.Packet.Seg.Seq, p.Seg.Seq = most32-29, 0
	s.Packet.Id, p.Id = most16-2, 0
	checkJoin(t, "numbers that begin anew", s, p, true)
	s.Packet.Seg.Seq, p.Seg.Seq = most32, 29
	s.Packet.Id, p.Id = most16, 2
	checkJoin(t, "numbers that began anew", s, p, true)
	p.Seg.Seq = most32 + 30
	checkJoin(t, "a Seq past its range", s, p, false)
	p.Seg.Seq, p.Id = 29, most16+3
	checkJoin(t, "an Id past its range", s, p, false)
	// The next numbers are right modulo 2^32 and 65536, but those of the super-packet are not valid.
	for _, by := range []int{-1, 1} {
		s, p = joint()
		s.Packet.Seg.Seq += by << 32
		checkJoin(t, "a super-packet with a Seq past its range", s, p, false)
		s, p = joint()
		s.Packet.Id += by << 16
		checkJoin(t, "a super-packet with an Id past its range", s, p, false)
	}
}

func TestJoinPaths(t *testing.T) {
	changes := []func(*impl.Packet){
		func(p *impl.Packet) { p.DstMac++ }, func(p *impl.Packet) { p.SrcMac++ }, func(p *impl.Packet) { p.Vlan++ },
		func(p *impl.Packet) { p.Tos++ }, func(p *impl.Packet) { p.Ttl++ }, func(p *impl.Packet) { p.SrcIp++ },
		func(p *impl.Packet) { p.DstIp++ }, func(p *impl.Packet) { p.Seg.SrcPort++ }, func(p *impl.Packet) { p.Seg.DstPort++ },
		func(p *impl.Packet) { p.Seg.Ack++ }, func(p *impl.Packet) { p.Seg.Window++ },
	}
	for _, change := range changes {
		s, p := joint()
		change(&p)
		checkJoin(t, "another path", s, p, false)
		change(&s.Packet)
		checkJoin(t, "the same other path", s, p, true)
	}
	invalid := []func(*impl.Packet){
		func(p *impl.Packet) { p.Vlan = 4096 }, func(p *impl.Packet) { p.Ttl = -1 }, func(p *impl.Packet) { p.Seg.Window = most16 + 1 },
		func(p *impl.Packet) { p.Seg.Kind = impl.KindUdp }, func(p *impl.Packet) { p.Seg.Kind = 0 },
	}
	for _, change := range invalid {
		s, p := joint()
		change(&s.Packet)
		change(&p)
		checkJoin(t, "invalid packets", s, p, false)
	}
	datagram := udp("ab")
	checkJoin(t, "two datagrams", impl.Single(datagram), datagram, false)
}

func TestJoinSizes(t *testing.T) {
	cases := []struct {
		length, size, count, next int
		can                       bool
	}{
		{30, 10, 3, 10, true}, {30, 10, 2, 10, false}, {30, 10, 4, 10, false}, {29, 10, 3, 10, false}, {31, 10, 3, 10, false},
		{30, 15, 2, 15, true}, {30, 30, 1, 30, true}, {30, 3, 10, 3, true}, {30, 1, 30, 1, true}, {30, 1, 30, 2, false},
		{30, -10, -3, 1, false}, {30, -30, -1, 1, false}, {0, 0, 0, 0, false}, {0, 0, 1, 0, false}, {0, 0, 1, 1, false}, {0, 1, 0, 1, false},
		{0, 10, 0, 10, false}, {0, 0, 3, 1, false}, {0, 320, 0, 1, false},
		{310, 10, 31, 10, true}, {310, 10, 31, 9, true}, {310, 10, 31, 11, false}, {312, 12, 26, 8, true}, {312, 12, 26, 9, false},
		{319, 1, 319, 1, true}, {319, 319, 1, 1, true}, {319, 11, 29, 1, true}, {319, 11, 29, 2, false}, {319, 1, 319, 0, false},
		{320, 1, 320, 1, false}, {320, 320, 1, 1, false}, {320, 10, 32, 1, false},
		{128, 128, 1, 128, true}, {256, 128, 2, 64, true}, {256, 128, 2, 65, false}, {256, 128, 2, 128, false},
		{160, 160, 1, 128, true}, {160, 160, 1, 129, false}, {160, 160, 1, 160, false}, {321, 1, 321, 1, false}, {321, 321, 1, 1, false},
	}
	for _, c := range cases {
		s := impl.Super{Packet: tcp(text(c.length)), Size: c.size, Count: c.count}
		p := tcp(text(c.next))
		p.Seg.Seq += c.length
		p.Id = (p.Id + c.count) & most16
		name := "size " + impl.FormatInt(c.size) + ", count " + impl.FormatInt(c.count) + ", next " + impl.FormatInt(c.next)
		checkJoin(t, name, s, p, c.can)
	}
	// Products of 0 or 30 that only come about by an overflow, or that come from numbers past the range.
	for _, n := range [][2]int{{1 << 32, 1 << 32}, {1 << 62, 4}, {4, 1 << 62}, {1<<63 - 30, -1}, {1 << 60, 0}, {0, 1 << 60}, {321, 0}, {0, 321}} {
		for _, length := range []int{0, 30} {
			s := impl.Super{Packet: tcp(text(length)), Size: n[0], Count: n[1]}
			p := tcp("a")
			p.Seg.Seq += length
			p.Id = (p.Id + n[1]) & most16
			checkJoin(t, "numbers past their range", s, p, false)
		}
	}
}

// traffic is a list of valid packets of several flows, many of which follow one another.
func traffic(seed uint64) []impl.Packet {
	r := newRandom(seed)
	var list []impl.Packet
	for range 60 {
		p := tcp(randomText(r, int(r.UintN(321))))
		p.Seg.SrcPort = int(r.UintN(2))
		p.Id, p.Seg.Seq = int(r.UintN(3))+most16-2, most32-int(r.UintN(300))
		p.Seg.Flags = impl.FlagAck | int(r.UintN(2))*impl.FlagPsh | int(r.UintN(2))*impl.FlagFin
		list = append(list, impl.Split(p, 1+int(r.UintN(128)))...)
		if r.UintN(4) == 0 {
			list = append(list, udp(randomText(r, int(r.UintN(129)))), tcp(""), flagged(tcp("ab"), int(r.UintN(32))))
		}
		if r.UintN(4) == 0 {
			i, j := r.IntN(len(list)), r.IntN(len(list))
			list[i], list[j] = list[j], list[i]
		}
	}
	return list
}

func TestCoalescingLosesNothing(t *testing.T) {
	for seed := range uint64(40) {
		list := traffic(seed)
		supers := impl.Coalesce(list)
		if len(supers) >= len(list) {
			t.Errorf("seed %d: nothing was joined", seed)
		}
		if got := impl.Resegment(supers); !slices.Equal(got, list) {
			t.Errorf("seed %d: %d packets come back as %d others", seed, len(list), len(got))
		}
		count := 0
		for _, s := range supers {
			if !impl.SuperOk(s.Packet) {
				t.Errorf("seed %d: %+v is not valid", seed, s)
			}
			count += s.Count
		}
		if count != len(list) {
			t.Errorf("seed %d: the super-packets stand for %d packets, not for %d", seed, count, len(list))
		}
	}
}

func TestCoalesceGivesPacketsBack(t *testing.T) {
	for _, n := range []int{0, 1, 2, 100, 127, 128, 129, 256, 319, 320} {
		for _, size := range []int{1, 3, 64, 127, 128} {
			for _, flags := range []int{16, 16 + 1, 16 + 8, 16 + 8 + 1} {
				p := flagged(tcp(text(n)), flags)
				p.Id, p.Seg.Seq = most16, most32-50
				list := impl.Split(p, size)
				want := []impl.Super{{Packet: p, Size: min(n, size), Count: len(list)}}
				if got := impl.Coalesce(list); !slices.Equal(got, want) {
					t.Errorf("%d bytes in pieces of %d: got %+v", n, size, got)
				}
			}
		}
	}
}

func TestCoalesceBreaks(t *testing.T) {
	list := impl.Split(tcp("abcdefgh"), 3)
	short := []impl.Super{impl.Single(list[2]), {Packet: tcp("abcdef"), Size: 3, Count: 2}}
	cases := []struct {
		name string
		list []impl.Packet
		want []impl.Super
	}{
		{"none", nil, nil},
		{"the last one first", []impl.Packet{list[2], list[0], list[1]}, short},
		{"backwards", []impl.Packet{list[2], list[1], list[0]}, []impl.Super{impl.Single(list[2]), impl.Single(list[1]), impl.Single(list[0])}},
		{"one of another flow between", []impl.Packet{list[0], udp("x"), list[1]}, []impl.Super{impl.Single(list[0]), impl.Single(udp("x")), impl.Single(list[1])}},
		{"one twice", []impl.Packet{list[0], list[0]}, []impl.Super{impl.Single(list[0]), impl.Single(list[0])}},
		{"an invalid one", []impl.Packet{{}, list[0], {}, list[1]}, []impl.Super{impl.Single(impl.Packet{}), impl.Single(list[0]), impl.Single(impl.Packet{}), impl.Single(list[1])}},
	}
	for _, c := range cases {
		if got := impl.Coalesce(c.list); !slices.Equal(got, c.want) {
			t.Errorf("%s: got %+v, want %+v", c.name, got, c.want)
		}
		if got := impl.Resegment(impl.Coalesce(c.list)); !slices.Equal(got, c.list) {
			t.Errorf("%s: it comes back as %+v", c.name, got)
		}
	}
	// A packet behind one with FlagPsh or FlagFin, or behind a shorter one, begins anew.
	for _, flags := range []int{impl.FlagAck + impl.FlagPsh, impl.FlagAck + impl.FlagFin} {
		list := impl.Split(tcp("abcdefghi"), 3)
		list[1].Seg.Flags = flags
		joined := flagged(tcp("abcdef"), flags)
		if got := impl.Coalesce(list); !slices.Equal(got, []impl.Super{{Packet: joined, Size: 3, Count: 2}, impl.Single(list[2])}) {
			t.Errorf("the flags %d in the middle: got %+v", flags, got)
		}
	}
}

func TestResegment(t *testing.T) {
	bad := tcp("abc")
	bad.Tos = 256
	p := tcp("abcdefgh")
	supers := []impl.Super{
		{Packet: bad, Size: 2, Count: 1}, {Packet: p, Size: 3, Count: 1}, {Packet: p, Size: -1, Count: 1}, {Packet: udp("ab"), Size: 1, Count: 2},
		{Packet: bad, Size: 2, Count: 2}, {Packet: p, Size: 0, Count: 2}, {Packet: p, Size: 129, Count: 2}, {Packet: p, Size: -3, Count: 3},
		{Packet: p, Size: 3, Count: 0}, {Packet: p, Size: 5, Count: -1}, {Packet: p, Size: 8, Count: 9}, {},
	}
	var want []impl.Packet
	want = append(want, bad, p, p, udp("ab"))
	want = append(want, impl.Split(p, 3)...)
	want = append(want, impl.Split(p, 5)...)
	want = append(want, p)
	if got := impl.Resegment(supers); !slices.Equal(got, want) {
		t.Errorf("Resegment: got %+v, want %+v", got, want)
	}
	if got := impl.Resegment(nil); len(got) != 0 {
		t.Errorf("Resegment of nothing: got %+v", got)
	}
}

func TestCoalesceLeavesArgumentsAlone(t *testing.T) {
	list := impl.Split(tcp("abcdefgh"), 3)
	checkUnchanged(t, list, udp("spare"), impl.Coalesce)
	checkUnchanged(t, list[:0], udp("spare"), impl.Coalesce)
	supers := []impl.Super{impl.Single(udp("a")), {Packet: tcp("abcdefgh"), Size: 3, Count: 3}}
	checkUnchanged(t, supers, impl.Single(udp("spare")), impl.Resegment)
	checkUnchanged(t, supers[:0], impl.Single(udp("spare")), impl.Resegment)
}
