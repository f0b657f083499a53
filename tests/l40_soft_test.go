package tests

import (
	"slices"
	"testing"

	"loop.example/g03312/impl"
)

// soft is a software host that has sent and received something.
func soft(t testing.TB) impl.Soft {
	s := impl.SoftOf(busyHost(t))
	s.Sent = []string{"sent"}
	return s
}

// badSofts are software hosts that are not valid.
func badSofts(t testing.TB) []impl.Soft {
	var list []impl.Soft
	for _, f := range badFilters() {
		s := soft(t)
		s.Filter = f
		list = append(list, s)
	}
	for _, steer := range invalidSteerings() {
		s := soft(t)
		s.Steering = steer
		list = append(list, s)
	}
	for _, n := range append([]int{-1, 0, 1, 5}, far...) {
		s := soft(t)
		s.Queues = n
		list = append(list, s)
	}
	return append(list, impl.Soft{})
}

func TestSoftOk(t *testing.T) {
	for i, s := range badSofts(t) {
		if impl.SoftOk(s) {
			t.Errorf("the invalid software host %d is accepted", i)
		}
	}
	for queues := range 6 {
		s := soft(t)
		s.Queues = queues
		if got := impl.SoftOk(s); got != (queues >= 2 && queues <= 4) {
			t.Errorf("%d queues: got %v", queues, got)
		}
	}
	checkPure(t, impl.SoftOk, soft(t))
}

func TestSoftOf(t *testing.T) {
	for _, h := range append(manyHosts(t), elsewhere(t)) {
		want := impl.Soft{Filter: h.Filter, Steering: h.Steering, Queues: len(h.Rx), Streams: h.Streams}
		if got := impl.SoftOf(h); !same(got, want) || !impl.SoftOk(got) {
			t.Errorf("got %+v, want %+v", got, want)
		}
		checkPure(t, impl.SoftOf, h)
	}
	for name, h := range badHosts(t) {
		if got := impl.SoftOf(h); !same(got, impl.Soft{}) {
			t.Errorf("an invalid host, %s: got %+v", name, got)
		}
	}
}

func TestSoftSend(t *testing.T) {
	for _, p := range []impl.Packet{tcp(""), tcp(text(320)), udp(text(128)), udp(text(129)), {}} {
		for _, size := range append([]int{-1, 0, 1, 50, 128, 129}, far...) {
			want := soft(t)
			want.Sent = slices.Concat(want.Sent, impl.SendFrames(p, size))
			if got := impl.SoftSend(soft(t), p, size); !same(got, want) {
				t.Errorf("%d bytes in pieces of %d: got %d frames", len(p.Seg.Body), size, len(got.Sent))
			}
		}
	}
	if got := impl.SoftSend(soft(t), tcp(text(320)), 100); len(got.Sent) != 5 || got.Sent[0] != "sent" {
		t.Errorf("a long packet: got %d frames", len(got.Sent))
	}
	for i, s := range badSofts(t) {
		if got := impl.SoftSend(s, tcp("x"), 50); !same(got, s) {
			t.Errorf("the invalid software host %d sends", i)
		}
	}
	checkPure(t, impl.SoftSend, soft(t), tcp(text(320)), 100)
	checkPure(t, impl.SoftSend, impl.Soft{Sent: []string{"x"}}, tcp(""), 100)
}

func TestSoftReceive(t *testing.T) {
	other := tcp("x")
	other.DstMac++
	all := udp("for all")
	all.DstMac = most48
	image, _ := impl.BuildImage(tcp(text(200)))
	next := tcp("three")
	next.Seg.Seq = 1006
	cases := []struct {
		name  string
		frame string
		data  string
	}{
		{"a datagram", frame(udp("abc")), "\x00\x03abc"}, {"a datagram for all", frame(all), "\x00\x07for all"}, {"a datagram with a tag", frame(withTag(udp("a"), 5)), "\x00\x01a"},
		{"for another one", frame(other), ""}, {"another tag", frame(withTag(udp("a"), 4)), ""}, {"a tag that is dropped", frame(withTag(udp("a"), 9)), ""},
		{"a flipped bit", flip(frame(udp("abc")), 333), ""}, {"nothing", "", ""}, {"a frame that is too long", impl.WithFcs(image), ""},
	}
	f := impl.FlowOf(udp(""))
	for _, c := range cases {
		s := soft(t)
		s.Streams = nil
		got := impl.SoftReceive(s, c.frame)
		want := s
		if c.data != "" {
			want.Streams = []impl.Stream{{Flow: f, Data: c.data}}
		}
		if !same(got, want) {
			t.Errorf("%s: got %+v", c.name, got.Streams)
		}
		checkPure(t, impl.SoftReceive, soft(t), c.frame)
	}
	s := soft(t)
	before := impl.DataOf(s.Streams, impl.FlowOf(tcp("")))
	one := impl.SoftReceive(s, frame(tcp("one")))
	if got := impl.DataOf(one.Streams, impl.FlowOf(tcp(""))); got != before+"one" {
		t.Errorf("a segment: got %q", got)
	}
	for i, bad := range badSofts(t) {
		if got := impl.SoftReceive(bad, frame(udp("abc"))); !same(got, bad) {
			t.Errorf("the invalid software host %d receives", i)
		}
	}
}

// sameDataModel is SameData as the document says it.
func sameDataModel(a []impl.Stream, b []impl.Stream) bool {
	for _, s := range slices.Concat(a, b) {
		i, j := impl.StreamIndex(a, s.Flow), impl.StreamIndex(b, s.Flow)
		if i < 0 || j < 0 || a[i].Next != b[j].Next || a[i].Data != b[j].Data || a[i].Done != b[j].Done {
			return false
		}
	}
	return true
}

func TestSameData(t *testing.T) {
	x, y := impl.Stream{Flow: impl.FlowOf(tcp("")), Next: 5, Data: "abc"}, impl.Stream{Flow: impl.FlowOf(udp("")), Data: "d", Done: true}
	next, data, done, flow := x, x, x, x
	next.Next++
	data.Data += "d"
	done.Done = true
	flow.Flow.SrcPort++
	cases := []struct {
		a, b []impl.Stream
		want bool
	}{
		{nil, nil, true}, {[]impl.Stream{x, y}, []impl.Stream{y, x}, true}, {[]impl.Stream{x}, nil, false}, {[]impl.Stream{x, y}, []impl.Stream{x}, false},
		{[]impl.Stream{x}, []impl.Stream{next}, false}, {[]impl.Stream{x}, []impl.Stream{data}, false}, {[]impl.Stream{x}, []impl.Stream{done}, false}, {[]impl.Stream{x}, []impl.Stream{flow}, false},
		// Only the first stream of a flow counts.
		{[]impl.Stream{x, next, y, x}, []impl.Stream{y, x, data}, true}, {[]impl.Stream{next, x}, []impl.Stream{x, next}, false}, {[]impl.Stream{x, x}, []impl.Stream{x}, true},
	}
	for i, c := range cases {
		if impl.SameData(c.a, c.b) != c.want || impl.SameData(c.b, c.a) != c.want {
			t.Errorf("case %d: the result is not %v", i, c.want)
		}
		checkPure(t, impl.SameData, c.a, c.b)
	}
	all := []impl.Stream{x, y, next, data, done, flow}
	equal := 0
	for seed := range uint64(400) {
		r := newRandom(seed)
		var lists [2][]impl.Stream
		for k := range lists {
			for range r.UintN(5) {
				lists[k] = append(lists[k], all[r.IntN(1+int(seed)%len(all))])
			}
		}
		want := sameDataModel(lists[0], lists[1])
		if got := impl.SameData(lists[0], lists[1]); got != want {
			t.Errorf("%+v and %+v: got %v", lists[0], lists[1], got)
		}
		if want {
			equal++
		}
	}
	if equal < 50 || equal > 350 {
		t.Errorf("%d of 400 lists were the same", equal)
	}
}

// wireFrames are frames of several flows in the order in which they were sent, and others between them.
func wireFrames(seed uint64) []string {
	r := newRandom(seed)
	var frames []string
	for _, p := range shuffledFlows(seed) {
		if r.UintN(4) == 0 {
			frames = append(frames, randomFrame(r.Uint64()))
		}
		if p.Seg.Flags == impl.FlagAck && r.UintN(4) == 0 {
			p.Seg.Flags += impl.FlagPsh
		}
		frames = append(frames, impl.SendFrames(p, 30+int(r.UintN(99)))...)
	}
	return frames
}

func TestSoftwareDeliversWhatItsPacketsSay(t *testing.T) {
	delivered := 0
	for seed := range uint64(30) {
		r := newRandom(seed)
		s := impl.SoftOf(newHost(t, true, 1, 1))
		var sent []string
		var packets []impl.Packet
		for _, f := range wireFrames(seed) {
			if r.UintN(3) == 0 {
				p, size := tcp(randomText(r, int(r.UintN(321)))), 1+int(r.UintN(128))
				s = impl.SoftSend(s, p, size)
				for _, piece := range pieces(p, size) {
					sent = append(sent, frame(piece))
				}
			}
			s = impl.SoftReceive(s, f)
			if p, code := impl.ReadFrame(f); code == impl.FrameFine && (p.DstMac == filter().Mac || p.DstMac == most48) && (p.Vlan == -1 || p.Vlan == 5) {
				packets = append(packets, p)
			}
		}
		want := impl.DeliverAll(nil, packets)
		if !slices.Equal(s.Streams, want) || !impl.SameData(s.Streams, want) || !slices.Equal(s.Sent, sent) {
			t.Errorf("seed %d: got %d streams and %d frames", seed, len(s.Streams), len(s.Sent))
		}
		for _, x := range want {
			delivered += len(x.Data)
		}
	}
	if delivered < 5000 {
		t.Errorf("only %d bytes were delivered", delivered)
	}
}
