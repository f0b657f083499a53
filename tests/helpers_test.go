package tests

import (
	"math"
	"math/rand/v2"
	"slices"
	"strings"
	"testing"

	"loop.example/g03312/impl"
)

// The largest numbers of 8, 16, 32 and 48 bits.
const (
	most8  = 255
	most16 = 65535
	most32 = 4294967295
	most48 = 281474976710655
)

// far are numbers that are in no range of the document.
var far = []int{math.MinInt, math.MinInt + 1, -1 << 32, -1 << 16, -256, -2, 1 << 48, 1 << 62, math.MaxInt - 1, math.MaxInt}

// field is a number in a T that has to be in a range.
type field[T any] struct {
	name      string
	low, high int
	set       func(*T, int)
}

// checkFields checks that ok accepts a valid T with each field at its bounds, and refuses it past
// them.
func checkFields[T any](t *testing.T, valid T, fields []field[T], ok func(T) bool) {
	t.Helper()
	if !ok(valid) {
		t.Fatalf("a valid value is refused: %+v", valid)
	}
	for _, f := range fields {
		inside := []int{f.low, min(f.low+1, f.high), max(f.high-1, f.low), f.high}
		outside := append([]int{f.low - 1, f.high + 1}, far...)
		for _, n := range append(inside, outside...) {
			changed := valid
			f.set(&changed, n)
			if want := n >= f.low && n <= f.high; ok(changed) != want {
				t.Errorf("%s = %d: accepted is %v, want %v", f.name, n, !want, want)
			}
		}
	}
}

// checkUnchanged checks that a call changes neither its slice nor the spare capacity behind it, and
// that what it returns shares no memory with the slice.
func checkUnchanged[T comparable, R any](t *testing.T, list []T, spare T, call func([]T) []R) {
	t.Helper()
	all := append(slices.Clone(list), spare, spare, spare)
	before := slices.Clone(all)
	result := call(all[:len(list)])
	if !slices.Equal(all, before) {
		t.Error("an argument or its spare capacity was changed")
	}
	clear(result[:cap(result)])
	if !slices.Equal(all, before) {
		t.Error("a result shares memory with an argument")
	}
}

// flip returns s with one bit flipped.
func flip(s string, bit int) string {
	data := []byte(s)
	data[bit/8] ^= 1 << (bit % 8)
	return string(data)
}

// word is the 16-bit number at an offset, as the tests read it.
func word(s string, at int) int { return int(s[at])*256 + int(s[at+1]) }

// put replaces bytes, as the tests do it.
func put(s string, at int, part string) string { return s[:at] + part + s[at+len(part):] }

// bytes16 are the bytes of a 16-bit number, as the tests write it.
func bytes16(n int) string { return string([]byte{byte(n / 256), byte(n)}) }

// folded is the sum of 16-bit words in ones' complement, counted in another way than the program does.
func folded(s string) int {
	total := 0
	for i := range len(s) {
		if i%2 == 0 {
			total += 256 * int(s[i])
		} else {
			total += int(s[i])
		}
	}
	if total == 0 {
		return 0
	}
	return (total-1)%most16 + 1
}

// text is a string of n different bytes.
func text(n int) string {
	return strings.Repeat(allBytes(), n/256+1)[:n]
}

func newRandom(seed uint64) *rand.Rand { return rand.New(rand.NewPCG(seed, 1)) }

func randomText(r *rand.Rand, n int) string {
	data := make([]byte, n)
	for i := range data {
		data[i] = byte(r.UintN(256))
	}
	return string(data)
}

// tcp is a packet with bytes that follow one another.
func tcp(body string) impl.Packet {
	return impl.Packet{
		DstMac: 0x020000000001, SrcMac: 0x020000000002, Vlan: -1, Tos: 3, Id: 500, Ttl: 64, SrcIp: 0x0a000001, DstIp: 0xc0a80002,
		Seg: impl.Segment{Kind: impl.KindTcp, SrcPort: 1025, DstPort: 80, Seq: 1000, Ack: 77, Flags: impl.FlagAck, Window: 4000, Body: body},
	}
}

// udp is a datagram.
func udp(body string) impl.Packet {
	p := tcp(body)
	p.Seg = impl.Segment{Kind: impl.KindUdp, SrcPort: 1025, DstPort: 53, Body: body}
	return p
}

// flagged is a packet with other flags.
func flagged(p impl.Packet, flags int) impl.Packet {
	p.Seg.Flags = flags
	return p
}
