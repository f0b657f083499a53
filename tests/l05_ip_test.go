package tests

import (
	"strings"
	"testing"

	"loop.example/g03312/impl"
)

func sampleIp() impl.Ip {
	return impl.Ip{Tos: 0x12, Id: 0x3456, Ttl: 0x78, Proto: 0x9a, Src: 0xbcdef001, Dst: 0x02030405, Body: "body"}
}

// ipFine reports whether a datagram is accepted; it fails the test if the functions that build
// disagree.
func ipFine(t *testing.T) func(impl.Ip) bool {
	return func(d impl.Ip) bool {
		is := impl.IpOk(d)
		h, head := impl.IpHeader(d)
		s, ok := impl.BuildIp(d)
		if head != is || ok != is || is && s != h+d.Body || !is && (h != "" || s != "") {
			t.Errorf("%+v: IpOk returns %v, IpHeader %q, %v, BuildIp %q, %v", d, is, h, head, s, ok)
		}
		return is
	}
}

// withIpSum is a datagram with its checksum made right.
func withIpSum(s string) string {
	s = put(s, 10, "\x00\x00")
	return put(s, 10, bytes16(most16-folded(s[:20])))
}

func TestIpConstants(t *testing.T) {
	if impl.MaxDatagramBody != 380 || impl.IpType != 0x0800 {
		t.Error("other constants", impl.MaxDatagramBody, impl.IpType)
	}
}

func TestIpOk(t *testing.T) {
	checkFields(t, sampleIp(), []field[impl.Ip]{
		{"Tos", 0, most8, func(d *impl.Ip, n int) { d.Tos = n }},
		{"Id", 0, most16, func(d *impl.Ip, n int) { d.Id = n }},
		{"Ttl", 0, most8, func(d *impl.Ip, n int) { d.Ttl = n }},
		{"Proto", 0, most8, func(d *impl.Ip, n int) { d.Proto = n }},
		{"Src", 0, most32, func(d *impl.Ip, n int) { d.Src = n }},
		{"Dst", 0, most32, func(d *impl.Ip, n int) { d.Dst = n }},
	}, ipFine(t))
	for _, n := range []int{0, 1, 379, 380, 381, 382, 65516, 65536} {
		d := sampleIp()
		d.Body = text(n)
		if got := ipFine(t)(d); got != (n <= 380) {
			t.Errorf("a body of %d bytes: accepted is %v", n, got)
		}
	}
}

func TestIpHeader(t *testing.T) {
	want := "\x45\x12\x00\x18\x34\x56\x40\x00\x78\x9a\x00\x00\xbc\xde\xf0\x01\x02\x03\x04\x05"
	want = withIpSum(want)
	if got, ok := impl.IpHeader(sampleIp()); got != want || !ok {
		t.Errorf("IpHeader: got %q, %v, want %q", got, ok, want)
	}
	if got, ok := impl.BuildIp(sampleIp()); got != want+"body" || !ok {
		t.Errorf("BuildIp: got %q, %v", got, ok)
	}
	long := sampleIp()
	long.Body = text(380)
	if got, ok := impl.BuildIp(long); got[2:4] != "\x01\x90" || got[20:] != long.Body || !ok {
		t.Errorf("BuildIp of the longest body: got %q, %v", got, ok)
	}
	// A header that is known from elsewhere.
	known := impl.Ip{Ttl: 64, Proto: 17, Src: 0xc0a80001, Dst: 0xc0a800c7, Body: text(95)}
	if got, _ := impl.IpHeader(known); got != "\x45\x00\x00\x73\x00\x00\x40\x00\x40\x11\xb8\x61\xc0\xa8\x00\x01\xc0\xa8\x00\xc7" {
		t.Errorf("a known header: got %q", got)
	}
}

// manyIp are datagrams at the bounds of all fields.
func manyIp() []impl.Ip {
	var list []impl.Ip
	for _, small := range []int{0, 1, 128, 254, 255} {
		for _, id := range []int{0, 1, 255, 256, most16 - 1, most16} {
			for _, address := range []int{0, 1, 1 << 16, 1 << 31, most32 - 1, most32} {
				for _, n := range []int{0, 1, 2, 379, 380} {
					list = append(list, impl.Ip{Tos: small, Id: id, Ttl: most8 - small, Proto: small, Src: address, Dst: most32 - address, Body: text(n)})
				}
			}
		}
	}
	return list
}

func TestIpRoundTrip(t *testing.T) {
	for _, d := range manyIp() {
		s, ok := impl.BuildIp(d)
		if !ok || folded(s[:20]) != most16 {
			t.Errorf("%+v: built with %v, and a header that sums up to %d", d, ok, folded(s[:20]))
		}
		for _, more := range []string{"", "\x00", "x", text(5000)} {
			if back, is := impl.ParseIp(s + more); back != d || !is {
				t.Errorf("%+v with %d further bytes: parsed as %+v, %v", d, len(more), back, is)
			}
		}
	}
}

func checkNoIp(t *testing.T, s string) {
	t.Helper()
	if d, ok := impl.ParseIp(s); d != (impl.Ip{}) || ok {
		t.Errorf("ParseIp of %d bytes %.24q: got %+v, %v", len(s), s, d, ok)
	}
	if same, ok := impl.LowerTtl(s); same != s || ok {
		t.Errorf("LowerTtl of %d bytes %.24q: got %.24q, %v", len(s), s, same, ok)
	}
}

func TestParseIpRefuses(t *testing.T) {
	s, _ := impl.BuildIp(sampleIp())
	for n := range len(s) {
		checkNoIp(t, s[:n])
		checkNoIp(t, strings.Repeat("\x00", n))
		checkNoIp(t, strings.Repeat("\xff", n))
	}
	for bit := range 8 * 20 {
		checkNoIp(t, flip(s, bit))
	}
	// Lengths that do not fit, with a right checksum.
	for _, n := range []int{0, 1, 19, 25, 26, 256, most16} {
		checkNoIp(t, withIpSum(put(s, 2, bytes16(n))))
	}
	for _, n := range []int{401, 402, 600} {
		checkNoIp(t, withIpSum(put(s, 2, bytes16(n)))+text(n))
	}
	if d, ok := impl.ParseIp(withIpSum(put(s, 2, bytes16(23)))); d.Body != "bod" || !ok {
		t.Errorf("a shorter datagram in the same bytes: got %+v, %v", d, ok)
	}
	if d, ok := impl.ParseIp(withIpSum(put(s, 2, bytes16(400))) + text(376)); d.Body != "body"+text(376) || !ok {
		t.Errorf("the longest datagram: got %+v, %v", d, ok)
	}
	// Other versions, options and fragments, with a right checksum.
	for _, first := range []string{"\x00", "\x05", "\x44", "\x46", "\x4f", "\x55", "\x65"} {
		checkNoIp(t, withIpSum(put(s, 0, first)))
	}
	for _, fragment := range []string{"\x00\x00", "\x00\x01", "\x20\x00", "\x40\x01", "\x60\x00", "\xc0\x00", "\x5f\xff"} {
		checkNoIp(t, withIpSum(put(s, 6, fragment)))
	}
}

func TestIpChecksumOfZero(t *testing.T) {
	d := sampleIp()
	d.Id = 0
	header, _ := impl.IpHeader(d)
	d.Id = word(header, 10)
	s, ok := impl.BuildIp(d)
	if word(s, 10) != 0 || !ok {
		t.Fatalf("the checksum is %d", word(s, 10))
	}
	if back, is := impl.ParseIp(s); back != d || !is {
		t.Errorf("parsed as %+v, %v", back, is)
	}
	// The header sums up to 65535 with this checksum too, but BuildIp does not return it.
	checkNoIp(t, put(s, 10, "\xff\xff"))
}

func TestLowerTtl(t *testing.T) {
	for _, d := range manyIp() {
		for _, more := range []string{"", "padding"} {
			s, _ := impl.BuildIp(d)
			if d.Ttl == 0 {
				if got, ok := impl.LowerTtl(s + more); got != s+more || ok {
					t.Errorf("%+v: LowerTtl returns %q, %v", d, got, ok)
				}
				continue
			}
			lower := d
			lower.Ttl--
			want, _ := impl.BuildIp(lower)
			if got, ok := impl.LowerTtl(s + more); got != want+more || !ok {
				t.Errorf("%+v: LowerTtl returns %q, %v, want %q", d, got, ok, want+more)
			}
		}
	}
}

func TestLoweredTtlLeavesARightChecksum(t *testing.T) {
	d := sampleIp()
	for id := range most16 + 1 {
		d.Id, d.Ttl = id, 1+id%255
		s, _ := impl.BuildIp(d)
		d.Ttl--
		want, _ := impl.BuildIp(d)
		if got, ok := impl.LowerTtl(s); got != want || !ok {
			t.Fatalf("%+v: LowerTtl returns %q, %v, want %q", d, got, ok, want)
		}
	}
	s, _ := impl.BuildIp(sampleIp())
	for ttl := 0x78; ttl > 0; ttl-- {
		next, ok := impl.LowerTtl(s)
		if !ok {
			t.Fatalf("the Ttl %d is not lowered", ttl)
		}
		s = next
	}
	if got, ok := impl.LowerTtl(s); got != s || ok {
		t.Errorf("the Ttl 0 is lowered: %q, %v", got, ok)
	}
}
