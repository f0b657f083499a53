package tests

import (
	"math"
	"strings"
	"testing"

	"loop.example/g03312/impl"
)

const (
	srcIp = 0x0a0b0c0d
	dstIp = 0xf0f1f2f3
)

func tcpSegment() impl.Segment {
	return impl.Segment{Kind: 6, SrcPort: 0x1122, DstPort: 0x3344, Seq: 0x55667788, Ack: 0x99aabbcc, Flags: 0x1d, Window: 0xeeff, Body: "hello"}
}

func udpSegment() impl.Segment {
	return impl.Segment{Kind: 17, SrcPort: 0x1122, DstPort: 0x3344, Body: "hello"}
}

// segmentFine reports whether a segment is accepted; it fails the test if SegmentOk and
// BuildSegment disagree.
func segmentFine(t *testing.T) func(impl.Segment) bool {
	return func(g impl.Segment) bool {
		s, ok := impl.BuildSegment(srcIp, dstIp, g)
		if is := impl.SegmentOk(g); is != ok || ok != (s != "") {
			t.Errorf("%+v: SegmentOk returns %v, BuildSegment %q, %v", g, is, s, ok)
		}
		return ok
	}
}

// pseudo is the pseudo-header of a segment, as the tests build it.
func pseudo(src, dst, kind, length int) string {
	return bytes16(src>>16) + bytes16(src&most16) + bytes16(dst>>16) + bytes16(dst&most16) + bytes16(kind) + bytes16(length)
}

// withSum is a segment with its checksum, which is at an offset, made right.
func withSum(kind int, s string, at int) string {
	s = put(s, at, "\x00\x00")
	return put(s, at, bytes16(most16-folded(pseudo(srcIp, dstIp, kind, len(s))+s)))
}

func TestSegmentConstants(t *testing.T) {
	flags := []int{impl.FlagFin, impl.FlagSyn, impl.FlagRst, impl.FlagPsh, impl.FlagAck}
	for i, f := range flags {
		if f != 1<<i {
			t.Errorf("flag %d is %d", i, f)
		}
	}
	if impl.KindTcp != 6 || impl.KindUdp != 17 || impl.MaxSuper != 320 {
		t.Error("other constants", impl.KindTcp, impl.KindUdp, impl.MaxSuper)
	}
}

func TestSegmentOkOfTcp(t *testing.T) {
	checkFields(t, tcpSegment(), []field[impl.Segment]{
		{"Kind", 6, 6, func(g *impl.Segment, n int) { g.Kind = n }},
		{"SrcPort", 0, most16, func(g *impl.Segment, n int) { g.SrcPort = n }},
		{"DstPort", 0, most16, func(g *impl.Segment, n int) { g.DstPort = n }},
		{"Seq", 0, most32, func(g *impl.Segment, n int) { g.Seq = n }},
		{"Ack", 0, most32, func(g *impl.Segment, n int) { g.Ack = n }},
		{"Flags", 0, 31, func(g *impl.Segment, n int) { g.Flags = n }},
		{"Window", 0, most16, func(g *impl.Segment, n int) { g.Window = n }},
	}, segmentFine(t))
}

func TestSegmentOkOfUdp(t *testing.T) {
	checkFields(t, udpSegment(), []field[impl.Segment]{
		{"Kind", 17, 17, func(g *impl.Segment, n int) { g.Kind = n }},
		{"SrcPort", 0, most16, func(g *impl.Segment, n int) { g.SrcPort = n }},
		{"DstPort", 0, most16, func(g *impl.Segment, n int) { g.DstPort = n }},
		{"Seq", 0, 0, func(g *impl.Segment, n int) { g.Seq = n }},
		{"Ack", 0, 0, func(g *impl.Segment, n int) { g.Ack = n }},
		{"Flags", 0, 0, func(g *impl.Segment, n int) { g.Flags = n }},
		{"Window", 0, 0, func(g *impl.Segment, n int) { g.Window = n }},
	}, segmentFine(t))
}

func TestSegmentKinds(t *testing.T) {
	for kind := -1; kind <= 256; kind++ {
		g := impl.Segment{Kind: kind}
		if got, want := segmentFine(t)(g), kind == 6 || kind == 17; got != want {
			t.Errorf("the kind %d: accepted is %v", kind, got)
		}
	}
}

func TestSegmentBodyLength(t *testing.T) {
	for _, n := range []int{0, 1, 2, 127, 128, 129, 319, 320, 321, 322, 65536} {
		for _, g := range []impl.Segment{tcpSegment(), udpSegment()} {
			g.Body = text(n)
			if got := segmentFine(t)(g); got != (n <= 320) {
				t.Errorf("kind %d with a body of %d bytes: accepted is %v", g.Kind, n, got)
			}
		}
	}
}

func TestPseudoHeader(t *testing.T) {
	type header struct{ src, dst, kind, length int }
	checkFields(t, header{1, 2, 3, 4}, []field[header]{
		{"src", 0, most32, func(h *header, n int) { h.src = n }},
		{"dst", 0, most32, func(h *header, n int) { h.dst = n }},
		{"kind", 0, most8, func(h *header, n int) { h.kind = n }},
		{"length", 0, most16, func(h *header, n int) { h.length = n }},
	}, func(h header) bool {
		got, ok := impl.PseudoHeader(h.src, h.dst, h.kind, h.length)
		want := ""
		if ok {
			want = pseudo(h.src, h.dst, h.kind, h.length)
		}
		if got != want {
			t.Errorf("PseudoHeader of %+v: got %q, want %q", h, got, want)
		}
		return ok
	})
	if got, ok := impl.PseudoHeader(0x01020304, 0xf5f6f7f8, 0x9a, 0xbcde); got != "\x01\x02\x03\x04\xf5\xf6\xf7\xf8\x00\x9a\xbc\xde" || !ok {
		t.Errorf("PseudoHeader: got %q, %v", got, ok)
	}
}

func TestBuildSegment(t *testing.T) {
	want := withSum(6, "\x11\x22\x33\x44\x55\x66\x77\x88\x99\xaa\xbb\xcc\x50\x1d\xee\xff\x00\x00\x00\x00hello", 16)
	if got, ok := impl.BuildSegment(srcIp, dstIp, tcpSegment()); got != want || !ok {
		t.Errorf("TCP: got %q, %v, want %q", got, ok, want)
	}
	want = withSum(17, "\x11\x22\x33\x44\x00\x0d\x00\x00hello", 6)
	if got, ok := impl.BuildSegment(srcIp, dstIp, udpSegment()); got != want || !ok {
		t.Errorf("UDP: got %q, %v, want %q", got, ok, want)
	}
	want = withSum(17, "\x11\x22\x33\x44\x01\x48\x00\x00"+text(320), 6)
	long := udpSegment()
	long.Body = text(320)
	if got, ok := impl.BuildSegment(srcIp, dstIp, long); got != want || !ok {
		t.Errorf("the longest UDP: got %q, %v, want %q", got, ok, want)
	}
}

func TestSegmentAddresses(t *testing.T) {
	for _, g := range []impl.Segment{tcpSegment(), udpSegment()} {
		for _, n := range append([]int{-1, most32 + 1}, far...) {
			for _, a := range [][2]int{{n, dstIp}, {srcIp, n}, {n, n}} {
				if got, ok := impl.BuildSegment(a[0], a[1], g); got != "" || ok {
					t.Errorf("BuildSegment between %d and %d: got %q, %v", a[0], a[1], got, ok)
				}
				s, _ := impl.BuildSegment(srcIp, dstIp, g)
				if got, ok := impl.ParseSegment(a[0], a[1], g.Kind, s); got != (impl.Segment{}) || ok {
					t.Errorf("ParseSegment between %d and %d: got %+v, %v", a[0], a[1], got, ok)
				}
			}
		}
		for _, n := range []int{0, 1, most32} {
			s, ok := impl.BuildSegment(n, most32-n, g)
			if back, is := impl.ParseSegment(n, most32-n, g.Kind, s); back != g || !is || !ok {
				t.Errorf("between %d and %d: parsed as %+v, %v", n, most32-n, back, is)
			}
		}
	}
}

// manySegments are segments at the bounds of all fields.
func manySegments() []impl.Segment {
	var list []impl.Segment
	for _, port := range []int{0, 1, 255, 256, most16} {
		for _, n := range []int{0, 1, 2, 3, 128, 319, 320} {
			list = append(list, impl.Segment{Kind: 17, SrcPort: port, DstPort: most16 - port, Body: text(n)})
			for flags := range 32 {
				seq := port * 65537
				list = append(list, impl.Segment{Kind: 6, SrcPort: port, DstPort: most16 - port, Seq: seq, Ack: most32 - seq, Flags: flags, Window: port, Body: text(n)})
			}
		}
	}
	return list
}

func TestSegmentRoundTrip(t *testing.T) {
	for _, g := range manySegments() {
		s, ok := impl.BuildSegment(srcIp, dstIp, g)
		if !ok || folded(pseudo(srcIp, dstIp, g.Kind, len(s))+s) != most16 {
			t.Errorf("%+v: built with %v, and does not sum up to 65535", g, ok)
		}
		if back, is := impl.ParseSegment(srcIp, dstIp, g.Kind, s); back != g || !is {
			t.Errorf("%+v: parsed as %+v, %v", g, back, is)
		}
		for _, kind := range []int{-1, 0, 1, 5, 6, 7, 16, 17, 18, 255, 262, math.MinInt} {
			if kind != g.Kind {
				checkNoSegment(t, srcIp, dstIp, kind, s)
			}
		}
		checkNoSegment(t, srcIp, dstIp+1, g.Kind, s)
		checkNoSegment(t, srcIp-1, dstIp, g.Kind, s)
		checkNoSegment(t, srcIp, dstIp-1<<31, g.Kind, s)
	}
}

func checkNoSegment(t *testing.T, src, dst, kind int, s string) {
	t.Helper()
	if g, ok := impl.ParseSegment(src, dst, kind, s); g != (impl.Segment{}) || ok {
		t.Errorf("ParseSegment of kind %d and %d bytes %.30q: got %+v, %v", kind, len(s), s, g, ok)
	}
}

func TestParseSegmentRefuses(t *testing.T) {
	for _, g := range []impl.Segment{tcpSegment(), udpSegment()} {
		s, _ := impl.BuildSegment(srcIp, dstIp, g)
		for n := range len(s) {
			checkNoSegment(t, srcIp, dstIp, g.Kind, s[:n])
			checkNoSegment(t, srcIp, dstIp, g.Kind, strings.Repeat("\x00", n))
		}
		for bit := range 8 * len(s) {
			checkNoSegment(t, srcIp, dstIp, g.Kind, flip(s, bit))
		}
		checkNoSegment(t, srcIp, dstIp, g.Kind, s+"\x00")
		g.Body = text(320)
		s, _ = impl.BuildSegment(srcIp, dstIp, g)
		checkNoSegment(t, srcIp, dstIp, g.Kind, s+"x")
	}
}

func TestParseSegmentRefusesWithRightSums(t *testing.T) {
	s, _ := impl.BuildSegment(srcIp, dstIp, tcpSegment())
	for _, first := range []string{"\x00", "\x40", "\x51", "\x5f", "\x60", "\xf0"} {
		checkNoSegment(t, srcIp, dstIp, 6, withSum(6, put(s, 12, first), 16))
	}
	for _, flags := range []string{"\x20", "\x3d", "\x40", "\x80", "\xff"} {
		checkNoSegment(t, srcIp, dstIp, 6, withSum(6, put(s, 13, flags), 16))
	}
	for _, urgent := range []string{"\x00\x01", "\x01\x00", "\xff\xff"} {
		checkNoSegment(t, srcIp, dstIp, 6, withSum(6, put(s, 18, urgent), 16))
	}
	checkNoSegment(t, srcIp, dstIp, 6, withSum(6, s[:20]+text(321), 16))
	if _, ok := impl.ParseSegment(srcIp, dstIp, 6, withSum(6, s[:20]+text(320), 16)); !ok {
		t.Error("the longest TCP segment is refused")
	}
	s, _ = impl.BuildSegment(srcIp, dstIp, udpSegment())
	for _, length := range []string{"\x00\x00", "\x00\x08", "\x00\x0c", "\x00\x0e", "\x01\x0d", "\xff\xff"} {
		checkNoSegment(t, srcIp, dstIp, 17, withSum(17, put(s, 4, length), 6))
	}
	checkNoSegment(t, srcIp, dstIp, 17, withSum(17, put(s, 4, "\x01\x49")[:8]+text(321), 6))
	checkNoSegment(t, srcIp, dstIp, 17, put(s, 6, "\x00\x00"))
}

// zeroSum is the segment with a source port that makes its sum 0.
func zeroSum(t *testing.T, g impl.Segment, at int) (impl.Segment, string) {
	t.Helper()
	g.SrcPort = 0
	s, _ := impl.BuildSegment(srcIp, dstIp, g)
	g.SrcPort = word(s, at)
	s, ok := impl.BuildSegment(srcIp, dstIp, g)
	if folded(pseudo(srcIp, dstIp, g.Kind, len(s))+put(s, at, "\x00\x00")) != most16 || !ok {
		t.Fatalf("the sum is not 0: %q, %v", s, ok)
	}
	return g, s
}

func TestSegmentChecksumOfZero(t *testing.T) {
	g, s := zeroSum(t, udpSegment(), 6)
	if word(s, 6) != most16 {
		t.Errorf("UDP: the checksum is %d", word(s, 6))
	}
	if back, ok := impl.ParseSegment(srcIp, dstIp, 17, s); back != g || !ok {
		t.Errorf("UDP: parsed as %+v, %v", back, ok)
	}
	checkNoSegment(t, srcIp, dstIp, 17, put(s, 6, "\x00\x00"))

	g, s = zeroSum(t, tcpSegment(), 16)
	if word(s, 16) != 0 {
		t.Errorf("TCP: the checksum is %d", word(s, 16))
	}
	if back, ok := impl.ParseSegment(srcIp, dstIp, 6, s); back != g || !ok {
		t.Errorf("TCP: parsed as %+v, %v", back, ok)
	}
	checkNoSegment(t, srcIp, dstIp, 6, put(s, 16, "\xff\xff"))
}
