package tests

import (
	"encoding/binary"
	"math"
	"strings"
	"testing"

	"loop.example/g03312/impl"
)

func TestWord16(t *testing.T) {
	for n := range most16 + 1 {
		want := string(binary.BigEndian.AppendUint16(nil, uint16(n)))
		if got := impl.Word16(n); got != want {
			t.Fatalf("Word16(%d): got %q", n, got)
		}
		if got := impl.Get16(want, 0); got != n {
			t.Fatalf("Get16(%q, 0): got %d", want, got)
		}
	}
	for _, n := range append([]int{-1, most16 + 1, most16 + 2, 1 << 17, 1 << 32}, far...) {
		if got := impl.Word16(n); got != "" {
			t.Errorf("Word16(%d): got %q", n, got)
		}
	}
}

func TestWord32(t *testing.T) {
	numbers := []int{0, 1, 255, 256, most16, most16 + 1, 1<<24 - 1, 1 << 24, 0x01020304, 0xfffefdfc, 1<<31 - 1, 1 << 31, most32 - 1, most32}
	for i := range 32 {
		numbers = append(numbers, 1<<i)
	}
	for _, n := range numbers {
		want := string(binary.BigEndian.AppendUint32(nil, uint32(n)))
		if got := impl.Word32(n); got != want {
			t.Errorf("Word32(%d): got %q", n, got)
		}
		if got := impl.Get32(want, 0); got != n {
			t.Errorf("Get32(%q, 0): got %d", want, got)
		}
	}
	for _, n := range append([]int{-1, most32 + 1, most32 + 2, 1 << 33}, far...) {
		if got := impl.Word32(n); got != "" {
			t.Errorf("Word32(%d): got %q", n, got)
		}
	}
}

func TestGetAtOffsets(t *testing.T) {
	for length := range 10 {
		s := "\x81\x02\xf3\x04\x95\x06\x07\xf8\x09"[:length]
		offsets := append([]int{-4, -3, -1}, far...)
		for at := range length + 3 {
			offsets = append(offsets, at)
		}
		for _, at := range offsets {
			want16, want32 := -1, -1
			if at >= 0 && at <= length-2 {
				want16 = int(binary.BigEndian.Uint16([]byte(s[at:])))
			}
			if at >= 0 && at <= length-4 {
				want32 = int(binary.BigEndian.Uint32([]byte(s[at:])))
			}
			if got := impl.Get16(s, at); got != want16 {
				t.Errorf("Get16(%q, %d): got %d, want %d", s, at, got, want16)
			}
			if got := impl.Get32(s, at); got != want32 {
				t.Errorf("Get32(%q, %d): got %d, want %d", s, at, got, want32)
			}
		}
	}
}

func TestPutBytes(t *testing.T) {
	cases := []struct {
		s    string
		at   int
		part string
		want string
	}{
		{"abcd", 0, "XY", "XYcd"}, {"abcd", 1, "XY", "aXYd"}, {"abcd", 2, "XY", "abXY"},
		{"abcd", 3, "XY", "abcd"}, {"abcd", 4, "XY", "abcd"}, {"abcd", 5, "XY", "abcd"},
		{"abcd", -1, "XY", "abcd"}, {"abcd", -2, "XY", "abcd"}, {"abcd", -3, "X", "abcd"},
		{"abcd", 0, "WXYZ", "WXYZ"}, {"abcd", 0, "VWXYZ", "abcd"}, {"abcd", -1, "VWXYZ", "abcd"}, {"abcd", 1, "WXYZ", "abcd"},
		{"abcd", 3, "Z", "abcZ"}, {"abcd", 4, "Z", "abcd"},
		{"abcd", 0, "", "abcd"}, {"abcd", 4, "", "abcd"}, {"abcd", 5, "", "abcd"}, {"abcd", -1, "", "abcd"},
		{"", 0, "", ""}, {"", 0, "X", ""}, {"", 1, "", ""}, {"", -1, "X", ""},
	}
	for _, at := range far {
		cases = append(cases, struct {
			s    string
			at   int
			part string
			want string
		}{"abcd", at, "XY", "abcd"})
	}
	for _, c := range cases {
		if got := impl.PutBytes(c.s, c.at, c.part); got != c.want {
			t.Errorf("PutBytes(%q, %d, %q): got %q, want %q", c.s, c.at, c.part, got, c.want)
		}
	}
}

func TestAddSums(t *testing.T) {
	cases := []struct{ a, b, want int }{
		{0, 0, 0}, {0, 1, 1}, {1, 0, 1}, {1, 2, 3}, {most16, 0, most16}, {0, most16, most16},
		{most16 - 1, 1, most16}, {most16, 1, 1}, {1, most16, 1}, {most16 - 1, 2, 1}, {32768, 32768, 1}, {32767, 32768, most16},
		{most16, most16, most16}, {most16, most16 - 1, most16 - 1},
		{-1, 0, -1}, {0, -1, -1}, {-1, 1, -1}, {1, -1, -1}, {-1, -1, -1}, {-1, most16 + 1, -1},
		{most16 + 1, 0, -1}, {0, most16 + 1, -1}, {most16 + 1, 1, -1}, {most16 + 1, most16 + 1, -1},
	}
	for _, n := range far {
		cases = append(cases, struct{ a, b, want int }{n, 1, -1}, struct{ a, b, want int }{1, n, -1}, struct{ a, b, want int }{n, n, -1})
	}
	for _, c := range cases {
		if got := impl.AddSums(c.a, c.b); got != c.want {
			t.Errorf("AddSums(%d, %d): got %d, want %d", c.a, c.b, got, c.want)
		}
	}
}

func TestSumWords(t *testing.T) {
	cases := []struct {
		s    string
		want int
	}{
		{"", 0}, {"\x00", 0}, {"\x00\x00", 0}, {"\x01", 256}, {"\x00\x01", 1}, {"\x01\x02", 258}, {"\x01\x02\x03", 1026},
		{"\xff", 65280}, {"\xff\xff", most16}, {"\xff\xff\x00\x00", most16}, {"\xff\xff\xff\xff", most16},
		{"\xff\xff\x00\x01", 1}, {"\x00\x01\xff\xff", 1}, {"\xff\xfe\x00\x01", most16}, {"\x80\x00\x80\x00", 1},
		{"\x00\x01\xf2\x03\xf4\xf5\xf6\xf7", 56818},
	}
	for _, c := range cases {
		if got := impl.SumWords(c.s); got != c.want {
			t.Errorf("SumWords(%q): got %d, want %d", c.s, got, c.want)
		}
		if got := impl.Checksum(c.s); got != most16-c.want {
			t.Errorf("Checksum(%q): got %d, want %d", c.s, got, most16-c.want)
		}
	}
	r := newRandom(2)
	for length := range 700 {
		for _, s := range []string{randomText(r, length), strings.Repeat("\xff", length)} {
			if got := impl.SumWords(s); got != folded(s) {
				t.Errorf("SumWords of %d bytes: got %d, want %d", length, got, folded(s))
			}
		}
	}
}

func TestDataWithTheirChecksum(t *testing.T) {
	r := newRandom(3)
	for length := range 300 {
		s := randomText(r, length)
		sum := impl.Checksum(s)
		if got := impl.AddSums(impl.SumWords(s), sum); got != most16 {
			t.Errorf("%d bytes and their checksum sum up to %d", length, got)
		}
		padded := s + strings.Repeat("\x00", length%2)
		if got := impl.SumWords(padded + impl.Word16(sum)); got != most16 {
			t.Errorf("%d bytes with their checksum sum up to %d", length, got)
		}
	}
}

func TestUpdateChecksum(t *testing.T) {
	cases := []struct{ sum, before, after, want int }{
		{most16 - 1, 1, 3, most16 - 3}, {most16, 0, 0, 0}, {most16, 0, 1, most16 - 1}, {most16, 0, most16, 0},
		{0, 0, 0, 0}, {0, most16, most16, 0}, {0, most16, 0, 0}, {most16 - 1, 1, 0, 0}, {most16, most16, most16, 0},
		{0, 0, 1, most16 - 1}, {8717, 1, 2, 8716}, {most16, most16, 0, most16},
	}
	for _, c := range cases {
		if got := impl.UpdateChecksum(c.sum, c.before, c.after); got != c.want {
			t.Errorf("UpdateChecksum(%d, %d, %d): got %d, want %d", c.sum, c.before, c.after, got, c.want)
		}
	}
	for _, n := range append([]int{-1, most16 + 1, 2*most16 + 1, math.MinInt + most16}, far...) {
		for _, a := range [][3]int{{n, 0, 0}, {0, n, 0}, {0, 0, n}, {n, most16, most16}, {most16, n, most16}, {most16, most16, n}, {n, n, n}} {
			if got := impl.UpdateChecksum(a[0], a[1], a[2]); got != -1 {
				t.Errorf("UpdateChecksum(%d, %d, %d): got %d", a[0], a[1], a[2], got)
			}
		}
	}
}

func TestUpdatedChecksumIsThatOfTheChangedData(t *testing.T) {
	r := newRandom(4)
	for length := 4; length < 80; length++ {
		// The last bytes are not 0, as 0 and 65535 stand for the same sum and only data of zeros have the sum 0.
		s := randomText(r, length) + "\x01\x00"
		for at := 0; at < length-1; at += 2 {
			for _, after := range []int{0, 1, most16 - 1, most16, int(r.UintN(most16 + 1))} {
				changed := put(s, at, bytes16(after))
				if got := impl.UpdateChecksum(impl.Checksum(s), word(s, at), after); got != impl.Checksum(changed) {
					t.Fatalf("offset %d of %q becomes %d: got %d, want %d", at, s, after, got, impl.Checksum(changed))
				}
			}
		}
	}
}
