package tests

import (
	"fmt"
	"strconv"
	"strings"
	"testing"

	"loop.example/g03312/impl"
)

// rssKey is the beginning of the key with which the hash is published, and rssHash are its results.
const rssKey = "\x6d\x5a\x56\xda\x25\x5b\x0e\xc2\x41\x67\x25\x3d\x43\xa3\x8f\xb0"

var rssHashes = []struct {
	src, dst         [4]int
	srcPort, dstPort int
	hash             int
}{
	{[4]int{66, 9, 149, 187}, [4]int{161, 142, 100, 80}, 2794, 1766, 0x51ccc178},
	{[4]int{199, 92, 111, 2}, [4]int{65, 69, 140, 83}, 14230, 4739, 0xc626b0ea},
	{[4]int{24, 19, 198, 95}, [4]int{12, 22, 207, 184}, 12898, 38024, 0x5c2b394a},
	{[4]int{38, 27, 205, 30}, [4]int{209, 142, 163, 6}, 48228, 2217, 0xafc7327f},
	{[4]int{153, 39, 163, 191}, [4]int{202, 188, 127, 2}, 44251, 1303, 0x10e828a2},
}

func address(a [4]int) int { return a[0]<<24 + a[1]<<16 + a[2]<<8 + a[3] }

// bitText is the text of the bits of a string, the highest bit of the first byte first.
func bitText(s string) string {
	text := ""
	for i := range len(s) {
		text += fmt.Sprintf("%08b", s[i])
	}
	return text
}

// windowOf is KeyWindow for valid arguments, read from the text of the bits.
func windowOf(key string, bit int) int {
	n, _ := strconv.ParseInt(bitText(key)[bit:bit+32], 2, 64)
	return int(n)
}

// hashOf is HashBytes for valid arguments.
func hashOf(key string, input string) int {
	hash := 0
	for i, c := range bitText(input) {
		if c == '1' {
			hash ^= windowOf(key, i)
		}
	}
	return hash
}

func TestHashConstants(t *testing.T) {
	if impl.KeyBytes != 16 || impl.MaxHashInput != 12 {
		t.Error("another constant", impl.KeyBytes, impl.MaxHashInput)
	}
}

func TestKeyWindow(t *testing.T) {
	r := newRandom(11)
	for _, key := range []string{rssKey, randomText(r, 16), randomText(r, 16), strings.Repeat("\xff", 16), strings.Repeat("\x00", 16)} {
		for bit := 0; bit <= 96; bit++ {
			if got, want := impl.KeyWindow(key, bit), windowOf(key, bit); got != want {
				t.Errorf("KeyWindow(%q, %d): got %d, want %d", key, bit, got, want)
			}
		}
		for _, bit := range append([]int{-32, -8, -1, 97, 98, 104, 128}, far...) {
			if got := impl.KeyWindow(key, bit); got != -1 {
				t.Errorf("KeyWindow at %d: got %d", bit, got)
			}
		}
	}
	for _, n := range []int{0, 1, 15, 17, 32, 300} {
		for _, bit := range []int{-1, 0, 8, 96, 97} {
			if got := impl.KeyWindow(text(n), bit); got != -1 {
				t.Errorf("KeyWindow of %d bytes at %d: got %d", n, bit, got)
			}
		}
	}
}

func TestHashBytes(t *testing.T) {
	r := newRandom(12)
	for n := range 13 {
		for range 30 {
			key, input := randomText(r, 16), randomText(r, n)
			if got, want := impl.HashBytes(key, input), hashOf(key, input); got != want {
				t.Errorf("HashBytes(%q, %q): got %d, want %d", key, input, got, want)
			}
		}
		if got := impl.HashBytes(rssKey, strings.Repeat("\x00", n)); got != 0 {
			t.Errorf("the hash of %d zero bytes is %d", n, got)
		}
	}
	for bit := range 96 {
		input := flip(strings.Repeat("\x00", 12), bit/8*8+7-bit%8)
		if got := impl.HashBytes(rssKey, input); got != windowOf(rssKey, bit) {
			t.Errorf("the hash of bit %d is %d", bit, got)
		}
	}
	for _, n := range []int{13, 14, 16, 400} {
		if got := impl.HashBytes(rssKey, text(n)); got != -1 {
			t.Errorf("HashBytes of %d bytes: got %d", n, got)
		}
	}
	for _, n := range []int{0, 1, 15, 17, 40} {
		for _, input := range []string{"", "\x00", "a", text(12), text(13)} {
			if got := impl.HashBytes(text(n), input); got != -1 {
				t.Errorf("HashBytes with a key of %d bytes: got %d", n, got)
			}
		}
	}
}

func TestPublishedHashes(t *testing.T) {
	for _, c := range rssHashes {
		for _, kind := range []int{0, impl.KindTcp, impl.KindUdp} {
			f := impl.Flow{Kind: kind, SrcIp: address(c.src), DstIp: address(c.dst), SrcPort: c.srcPort, DstPort: c.dstPort}
			if got := impl.HashFlow(rssKey, f); got != c.hash {
				t.Errorf("HashFlow of %+v: got %x, want %x", f, got, c.hash)
			}
		}
	}
}

func TestHashInput(t *testing.T) {
	f := impl.Flow{Kind: impl.KindTcp, SrcIp: 0x01020304, DstIp: 0x05060708, SrcPort: 0x090a, DstPort: 0x0b0c}
	all := "\x01\x02\x03\x04\x05\x06\x07\x08\x09\x0a\x0b\x0c"
	changed := func(change func(*impl.Flow)) impl.Flow {
		g := f
		change(&g)
		return g
	}
	cases := []struct {
		flow impl.Flow
		want string
	}{
		{f, all},
		{impl.Flow{}, strings.Repeat("\x00", 12)},
		{impl.Flow{SrcIp: most32, DstIp: most32, SrcPort: most16, DstPort: most16}, strings.Repeat("\xff", 12)},
		{changed(func(g *impl.Flow) { g.Kind = -1 }), all},
		// Word32 and Word16 of a number past their range have no bytes.
		{changed(func(g *impl.Flow) { g.SrcIp = -1 }), all[4:]},
		{changed(func(g *impl.Flow) { g.SrcIp = most32 + 1 }), all[4:]},
		{changed(func(g *impl.Flow) { g.DstIp = most32 + 1 }), all[:4] + all[8:]},
		{changed(func(g *impl.Flow) { g.SrcPort = most16 + 1 }), all[:8] + all[10:]},
		{changed(func(g *impl.Flow) { g.DstPort = -1 }), all[:10]},
	}
	for _, c := range cases {
		if got := impl.HashInput(c.flow); got != c.want {
			t.Errorf("HashInput of %+v: got %q, want %q", c.flow, got, c.want)
		}
		if got, want := impl.HashFlow(rssKey, c.flow), hashOf(rssKey, c.want); got != want {
			t.Errorf("HashFlow of %+v: got %d, want %d", c.flow, got, want)
		}
	}
	for _, key := range []string{"", text(15), text(17)} {
		if got := impl.HashFlow(key, f); got != -1 {
			t.Errorf("HashFlow with a key of %d bytes: got %d", len(key), got)
		}
	}
}

func TestHashIsLinear(t *testing.T) {
	r := newRandom(13)
	for range 500 {
		n := int(r.UintN(13))
		key, other, a, b := randomText(r, 16), randomText(r, 16), randomText(r, n), randomText(r, n)
		if got, want := impl.HashBytes(key, impl.XorBytes(a, b)), impl.HashBytes(key, a)^impl.HashBytes(key, b); got != want {
			t.Errorf("the hash of %q and %q together is %d, not %d", a, b, got, want)
		}
		if got, want := impl.HashBytes(impl.XorBytes(key, other), a), impl.HashBytes(key, a)^impl.HashBytes(other, a); got != want {
			t.Errorf("the hash of %q with two keys together is %d, not %d", a, got, want)
		}
	}
}

func TestXorBytes(t *testing.T) {
	cases := [][3]string{
		{"", "", ""}, {"ab", "  ", "AB"}, {"\xff\x00\x0f", "\x0f\x0f\xff", "\xf0\x0f\xf0"}, {"a", "a", "\x00"},
		{"a", "", ""}, {"", "a", ""}, {"abc", "ab", ""}, {"ab", "abc", ""},
	}
	for _, c := range cases {
		if got := impl.XorBytes(c[0], c[1]); got != c[2] {
			t.Errorf("XorBytes(%q, %q): got %q", c[0], c[1], got)
		}
	}
	r := newRandom(14)
	for n := range 40 {
		a, b := randomText(r, n), randomText(r, n)
		if got := impl.XorBytes(impl.XorBytes(a, b), b); got != a {
			t.Errorf("%q twice with %q is %q", a, b, got)
		}
	}
}

func TestRepeatedKey(t *testing.T) {
	for _, a := range []int{0, 1, 65, 254, 255} {
		for _, b := range []int{0, 1, 66, 254, 255} {
			want := strings.Repeat(string([]byte{byte(a), byte(b)}), 8)
			if got := impl.RepeatedKey(a, b); got != want {
				t.Errorf("RepeatedKey(%d, %d): got %q", a, b, got)
			}
		}
	}
	for _, n := range append([]int{-1, 256, 257, 321}, far...) {
		for _, other := range []int{0, 255, n} {
			if a, b := impl.RepeatedKey(n, other), impl.RepeatedKey(other, n); a != "" || b != "" {
				t.Errorf("RepeatedKey with %d: got %q and %q", n, a, b)
			}
		}
	}
}

// randomFlow is a flow with numbers in their ranges, or, once in a while, past them.
func randomFlow(seed uint64) impl.Flow {
	r := newRandom(seed)
	f := impl.Flow{Kind: impl.KindTcp, SrcIp: int(r.Uint32()), DstIp: int(r.Uint32()), SrcPort: int(r.UintN(65536)), DstPort: int(r.UintN(65536))}
	switch r.UintN(12) {
	case 0:
		f.SrcIp = most32 + 1
	case 1:
		f.DstPort = -1
	}
	return f
}

func TestHashIsSymmetricForRepeatedKeys(t *testing.T) {
	differ := 0
	for seed := range uint64(400) {
		f := randomFlow(seed)
		key := impl.RepeatedKey(int(seed%256), int(seed*7%256))
		if a, b := impl.HashFlow(key, f), impl.HashFlow(key, impl.Reversed(f)); a != b {
			t.Errorf("the hashes of %+v and its reverse are %d and %d", f, a, b)
		}
		if impl.HashFlow(rssKey, f) != impl.HashFlow(rssKey, impl.Reversed(f)) {
			differ++
		}
	}
	if differ < 350 {
		t.Errorf("with another key, only %d of 400 flows differ from their reverse", differ)
	}
}

func TestReversed(t *testing.T) {
	f := impl.Flow{Kind: 1, SrcIp: 2, DstIp: 3, SrcPort: 4, DstPort: 5}
	if got := impl.Reversed(f); got != (impl.Flow{Kind: 1, SrcIp: 3, DstIp: 2, SrcPort: 5, DstPort: 4}) {
		t.Errorf("Reversed: got %+v", got)
	}
	for seed := range uint64(20) {
		if g := randomFlow(seed); impl.Reversed(impl.Reversed(g)) != g {
			t.Errorf("%+v reversed twice differs", g)
		}
	}
}
