package tests

import (
	"encoding/binary"
	"hash/crc32"
	"strings"
	"testing"

	"loop.example/g03312/impl"
)

func TestCrc32(t *testing.T) {
	cases := []struct {
		s    string
		want int
	}{
		{"", 0}, {"123456789", 3421780262}, {"\x00", 3523407757}, {"a", 3904355907}, {"\xff\xff\xff\xff", most32}, {"\x00\x00\x00\x00", 558161692},
	}
	for _, c := range cases {
		if got := impl.Crc32(c.s); got != c.want {
			t.Errorf("Crc32(%q): got %d, want %d", c.s, got, c.want)
		}
	}
	r := newRandom(5)
	for length := range 600 {
		s := randomText(r, length)
		if got, want := impl.Crc32(s), int(crc32.ChecksumIEEE([]byte(s))); got != want {
			t.Errorf("Crc32 of %d bytes: got %d, want %d", length, got, want)
		}
	}
	for i := range 256 {
		s := string([]byte{byte(i)})
		if got, want := impl.Crc32(s), int(crc32.ChecksumIEEE([]byte(s))); got != want {
			t.Errorf("Crc32(%q): got %d, want %d", s, got, want)
		}
	}
}

func TestFcsRoundTrip(t *testing.T) {
	for _, s := range []string{"", "\x00", "a", "ab", "abc", "abcd", "123456789", "\x00\x00\x00\x00", "\xff\xff\xff\xff", allBytes(), text(500), text(20001)} {
		want := s + string(binary.LittleEndian.AppendUint32(nil, crc32.ChecksumIEEE([]byte(s))))
		if got := impl.WithFcs(s); got != want {
			t.Errorf("WithFcs of %d bytes: got %.20q, want %.20q", len(s), got, want)
		}
		if got, ok := impl.CheckFcs(want); got != s || !ok {
			t.Errorf("CheckFcs of %d protected bytes: got %.20q, %v", len(s), got, ok)
		}
	}
	if got := impl.WithFcs("123456789"); got != "123456789\x26\x39\xf4\xcb" {
		t.Errorf("the check bytes are not the lowest first: %q", got)
	}
}

func checkNoFcs(t *testing.T, s string) {
	t.Helper()
	if got, ok := impl.CheckFcs(s); got != "" || ok {
		t.Errorf("CheckFcs of %d bytes %.20q: got %.20q, %v", len(s), s, got, ok)
	}
}

func TestFcsOfShortStrings(t *testing.T) {
	for length := range 4 {
		checkNoFcs(t, strings.Repeat("\x00", length))
		checkNoFcs(t, strings.Repeat("\xff", length))
	}
	checkNoFcs(t, "\x00\x00\x00\x01")
	checkNoFcs(t, "\xff\xff\xff\xff")
	checkNoFcs(t, "\x00\x00\x00\x00\x00")
	checkNoFcs(t, "123456789\xcb\xf4\x39\x26")
}

func TestEveryFlippedBitIsNoticed(t *testing.T) {
	r := newRandom(6)
	for _, length := range []int{0, 1, 2, 3, 4, 60, 64, 300, 422} {
		s := impl.WithFcs(randomText(r, length))
		for bit := range 8 * len(s) {
			checkNoFcs(t, flip(s, bit))
		}
		for cut := 1; cut <= min(len(s), 5); cut++ {
			checkNoFcs(t, s[:len(s)-cut])
		}
		checkNoFcs(t, s+"\x00")
	}
}
