package tests

import (
	"slices"
	"strings"
	"testing"

	"loop.example/g03312/impl"
)

func desc() impl.Desc {
	return impl.Desc{Op: impl.DescData, Flags: impl.DescSplit, Len: 0x0102, At: 0x03040506, Size: 0x0708, Cookie: 0x090a}
}

func TestDescriptorConstants(t *testing.T) {
	got := []int{impl.DescSize, impl.DescFree, impl.DescData, impl.DescContext, impl.DescBuffer, impl.DescEnd, impl.DescSplit}
	if !slices.Equal(got, []int{16, 0, 1, 2, 3, 1, 2}) {
		t.Error("other constants", got)
	}
}

// descFine reports whether a descriptor is accepted; it fails the test if DescOk and EncodeDesc disagree, or the descriptor
// cannot be decoded.
func descFine(t *testing.T) func(impl.Desc) bool {
	return func(x impl.Desc) bool {
		ok, s := impl.DescOk(x), impl.EncodeDesc(x)
		if ok != (s != "") || ok && len(s) != 16 {
			t.Errorf("%+v: DescOk returns %v, EncodeDesc %q", x, ok, s)
		}
		if got, is := impl.DecodeDesc(s); is != ok || ok && got != x || !ok && got != (impl.Desc{}) {
			t.Errorf("%+v is decoded as %+v, %v", x, got, is)
		}
		return ok
	}
}

func TestDescOk(t *testing.T) {
	fields := []field[impl.Desc]{
		{"Op", 0, 3, func(x *impl.Desc, n int) { x.Op = n }}, {"Flags", 0, 3, func(x *impl.Desc, n int) { x.Flags = n }},
		{"Len", 0, most16, func(x *impl.Desc, n int) { x.Len = n }}, {"At", 0, most32, func(x *impl.Desc, n int) { x.At = n }},
		{"Size", 0, most16, func(x *impl.Desc, n int) { x.Size = n }}, {"Cookie", 0, most16, func(x *impl.Desc, n int) { x.Cookie = n }},
	}
	checkFields(t, desc(), fields, descFine(t))
	checkFields(t, impl.Desc{}, fields, descFine(t))
}

func TestEncodeDesc(t *testing.T) {
	cases := []struct {
		x    impl.Desc
		want string
	}{
		{desc(), "\x01\x02\x01\x02\x03\x04\x05\x06\x07\x08\x09\x0a\x00\x00\x00\x00"},
		{impl.Desc{}, strings.Repeat("\x00", 16)},
		{impl.Desc{Op: 3, Flags: 3, Len: most16, At: most32, Size: most16, Cookie: most16}, "\x03\x03" + strings.Repeat("\xff", 10) + "\x00\x00\x00\x00"},
	}
	for _, c := range cases {
		if got := impl.EncodeDesc(c.x); got != c.want {
			t.Errorf("%+v: got %q", c.x, got)
		}
	}
}

func TestDecodeDesc(t *testing.T) {
	s := impl.EncodeDesc(desc())
	for n := range 16 {
		if x, ok := impl.DecodeDesc(s[:n]); ok || x != (impl.Desc{}) {
			t.Errorf("%d bytes: got %+v, %v", n, x, ok)
		}
	}
	for _, longer := range []string{s + "\x00", s + s, s + text(300)} {
		if x, ok := impl.DecodeDesc(longer); ok || x != (impl.Desc{}) {
			t.Errorf("%d bytes: got %+v, %v", len(longer), x, ok)
		}
	}
	// With a byte changed, it is the descriptor that has these bytes, if there is one.
	for at := range 16 {
		for b := range 256 {
			changed := put(s, at, string([]byte{byte(b)}))
			x, ok := impl.DecodeDesc(changed)
			can := at > 1 && at < 12 || b < 4 && at < 12 || b == 0
			if ok != can || ok && impl.EncodeDesc(x) != changed || !ok && x != (impl.Desc{}) {
				t.Errorf("byte %d is %d: got %+v, %v", at, b, x, ok)
			}
		}
	}
	r := newRandom(19)
	for range 300 {
		x := impl.Desc{Op: int(r.UintN(4)), Flags: int(r.UintN(4)), Len: int(r.UintN(65536)), At: int(r.Uint32()), Size: int(r.UintN(65536)), Cookie: int(r.UintN(65536))}
		if got, ok := impl.DecodeDesc(impl.EncodeDesc(x)); got != x || !ok {
			t.Errorf("%+v is decoded as %+v, %v", x, got, ok)
		}
	}
}

func TestDescribePacket(t *testing.T) {
	for n := 1; n <= 16; n++ {
		for _, size := range []int{1, 2, 127, 128} {
			for _, cookie := range []int{0, 1, most16} {
				var pieces []impl.Piece
				want := []impl.Desc{{Op: impl.DescContext, Size: size, Cookie: cookie}}
				for k := range n {
					pieces = append(pieces, impl.Piece{At: 1000 * k, Len: k})
					want = append(want, impl.Desc{Op: impl.DescData, At: 1000 * k, Len: k, Cookie: cookie})
				}
				want[n].Flags = impl.DescEnd
				got := impl.DescribePacket(pieces, size, cookie)
				if !slices.Equal(got, want) {
					t.Errorf("%d pieces: got %+v", n, got)
				}
				back, backSize, backCookie, ok := impl.PiecesOfDescs(got)
				if !slices.Equal(back, pieces) || backSize != size || backCookie != cookie || !ok {
					t.Errorf("%d pieces come back as %+v, %d, %d, %v", n, back, backSize, backCookie, ok)
				}
			}
		}
	}
	one := []impl.Piece{{At: most32, Len: 4096}}
	if got := impl.DescribePacket(one, 1, 0); !slices.Equal(got, []impl.Desc{{Op: 2, Size: 1}, {Op: 1, Flags: 1, Len: 4096, At: most32}}) {
		t.Errorf("the last address: got %+v", got)
	}
	refuse := func(name string, pieces []impl.Piece, size int, cookie int) {
		t.Helper()
		if got := impl.DescribePacket(pieces, size, cookie); got != nil {
			t.Errorf("%s: got %+v", name, got)
		}
	}
	refuse("no pieces", nil, 1, 0)
	refuse("an empty list", []impl.Piece{}, 1, 0)
	refuse("a far piece", []impl.Piece{{At: most32 + 1, Len: 1}}, 1, 0)
	refuse("a far piece among others", []impl.Piece{{At: 1}, {At: most32 + 1, Len: 1}, {At: 1}}, 1, 0)
	for _, pieces := range badPieces() {
		refuse("invalid pieces", pieces, 1, 0)
	}
	for _, n := range append([]int{-1, 0, 129, 130}, far...) {
		refuse("the size", one, n, 0)
	}
	for _, n := range append([]int{-1, most16 + 1}, far...) {
		refuse("the cookie", one, 1, n)
	}
	checkPure(t, impl.DescribePacket, []impl.Piece{{At: 1, Len: 2}, {At: 3, Len: 4}}, 5, 6)
	checkPure(t, impl.DescribePacket, []impl.Piece{{At: 1, Len: 2}, {At: 3, Len: 4}}, 0, 6)
}

func TestPiecesOfDescs(t *testing.T) {
	pieces := []impl.Piece{{At: 10, Len: 20}, {At: 30, Len: 0}, {At: 50, Len: 60}}
	list := impl.DescribePacket(pieces, 100, 7)
	refuse := func(name string, list []impl.Desc) {
		t.Helper()
		if got, size, cookie, ok := impl.PiecesOfDescs(list); ok || got != nil || size != 0 || cookie != 0 {
			t.Errorf("%s: got %+v, %d, %d, %v", name, got, size, cookie, ok)
		}
	}
	changes := []struct {
		name string
		set  func([]impl.Desc)
	}{
		{"another operation first", func(l []impl.Desc) { l[0].Op = impl.DescData }}, {"a flag first", func(l []impl.Desc) { l[0].Flags = 1 }},
		{"a length first", func(l []impl.Desc) { l[0].Len = 1 }}, {"an address first", func(l []impl.Desc) { l[0].At = 1 }},
		{"no size", func(l []impl.Desc) { l[0].Size = 0 }}, {"a large size", func(l []impl.Desc) { l[0].Size = 129 }},
		{"another cookie first", func(l []impl.Desc) { l[0].Cookie = 8 }}, {"another cookie in the middle", func(l []impl.Desc) { l[2].Cookie = 8 }},
		{"another cookie last", func(l []impl.Desc) { l[3].Cookie = 8 }}, {"a size later", func(l []impl.Desc) { l[1].Size = 100 }},
		{"an early end", func(l []impl.Desc) { l[2].Flags = 1 }}, {"a flag in the middle", func(l []impl.Desc) { l[2].Flags = 2 }},
		{"no end", func(l []impl.Desc) { l[3].Flags = 0 }}, {"two flags at the end", func(l []impl.Desc) { l[3].Flags = 3 }},
		{"a buffer", func(l []impl.Desc) { l[2].Op = impl.DescBuffer }}, {"a free one", func(l []impl.Desc) { l[3].Op = impl.DescFree }},
		{"a context later", func(l []impl.Desc) { l[1].Op = impl.DescContext }}, {"a long piece", func(l []impl.Desc) { l[1].Len = 4097 }},
		{"a negative length", func(l []impl.Desc) { l[1].Len = -1 }}, {"a far piece", func(l []impl.Desc) { l[1].At = most32 + 1 }},
		{"a negative address", func(l []impl.Desc) { l[1].At = -1 }},
		{"a cookie past its range", func(l []impl.Desc) {
			for i := range l {
				l[i].Cookie = most16 + 1
			}
		}},
	}
	for _, c := range changes {
		changed := slices.Clone(list)
		c.set(changed)
		refuse(c.name, changed)
	}
	refuse("none", nil)
	refuse("an empty list", []impl.Desc{})
	refuse("a context only", list[:1])
	refuse("no context", list[1:])
	refuse("not the last one", list[:3])
	refuse("one too much", append(slices.Clone(list), list[3]))
	refuse("the zero descriptor", []impl.Desc{{}})
	long := impl.DescribePacket(slices.Repeat([]impl.Piece{{At: 1}}, 16), 1, 0)
	refuse("seventeen pieces", slices.Insert(long, 1, impl.Desc{Op: impl.DescData, At: 1}))
	checkPure(t, impl.PiecesOfDescs, list)
	checkPure(t, impl.PiecesOfDescs, list[:3])
}
