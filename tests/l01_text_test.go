package tests

import (
	"encoding/hex"
	"math"
	"slices"
	"strconv"
	"strings"
	"testing"

	"loop.example/g03312/impl"
)

func allBytes() string {
	data := make([]byte, 256)
	for i := range data {
		data[i] = byte(i)
	}
	return string(data)
}

func TestTextLimits(t *testing.T) {
	// The other tests take the limits from the program, so that this one alone holds their values.
	got := []int{impl.MaxInputLen, impl.MaxUint, impl.MaxLineLen, impl.MaxFieldsPerLine}
	if want := []int{20000, 1000000000, 600, 24}; !slices.Equal(got, want) {
		t.Errorf("the limits are %d, want %d", got, want)
	}
}

func checkEncode(t *testing.T, s string) {
	t.Helper()
	want := hex.EncodeToString([]byte(s))
	got, ok := impl.EncodeHex(s)
	if got != want || !ok {
		t.Errorf("EncodeHex of %d bytes %.20q: got %.40q, %v", len(s), s, got, ok)
	}
	back, ok := impl.DecodeHex(want)
	if back != s || !ok {
		t.Errorf("DecodeHex of %d bytes %.40q: got %.20q, %v", len(want), want, back, ok)
	}
}

func TestHexRoundTrip(t *testing.T) {
	for _, s := range []string{"", "az", "\x00", "\x00\x01", "\xff\x80", "\x0f\xf0", " line\n", "\u00e9\u20ac", allBytes()} {
		checkEncode(t, s)
	}
	for i := range 256 {
		checkEncode(t, string([]byte{byte(i)}))
	}
}

func TestHexAtTheLimit(t *testing.T) {
	full := strings.Repeat(allBytes(), 79)[:impl.MaxInputLen]
	checkEncode(t, full)
	checkEncode(t, full[1:])

	for _, n := range []int{1, 2, impl.MaxInputLen} {
		if got, ok := impl.EncodeHex(full + strings.Repeat("x", n)); got != "" || ok {
			t.Errorf("EncodeHex of %d bytes past the limit: got %d bytes, %v", n, len(got), ok)
		}
		if got, ok := impl.DecodeHex(strings.Repeat("61", impl.MaxInputLen+n)); got != "" || ok {
			t.Errorf("DecodeHex to %d bytes past the limit: got %d bytes, %v", n, len(got), ok)
		}
		if got, ok := impl.DecodeHex(strings.Repeat("61", impl.MaxInputLen) + strings.Repeat("6", n)); got != "" || ok {
			t.Errorf("DecodeHex with %d digits past the limit: got %d bytes, %v", n, len(got), ok)
		}
	}
}

func TestDecodeHexRejects(t *testing.T) {
	for _, s := range []string{
		"6", "617", "617a6", // odd lengths
		"6A", "A6", "617A", "FF", // upper case
		"g0", "0g", "617g", "zz", "0x", "0x61",
		" 61", "61 ", "6 1a", "61 7a", "61\n7", "-1", "+1", "\x00\x00", "\xff\xff", "\u0661",
	} {
		if got, ok := impl.DecodeHex(s); got != "" || ok {
			t.Errorf("DecodeHex(%q): got %q, %v", s, got, ok)
		}
	}
}

func TestDecodeHexOfEveryPair(t *testing.T) {
	for high := range 256 {
		for low := range 256 {
			s := string([]byte{byte(high), byte(low)})
			data, err := hex.DecodeString(s)
			valid := err == nil && s == strings.ToLower(s)
			want := ""
			if valid {
				want = string(data)
			}
			if got, ok := impl.DecodeHex(s); got != want || ok != valid {
				t.Errorf("DecodeHex(%q): got %q, %v", s, got, ok)
			}
		}
	}
}

func TestFormatInt(t *testing.T) {
	cases := []struct {
		n    int
		want string
	}{
		{0, "0"}, {1, "1"}, {-1, "-1"}, {9, "9"}, {10, "10"}, {-10, "-10"}, {-30, "-30"}, {100, "100"}, {-905, "-905"},
		{impl.MaxUint, "1000000000"}, {-impl.MaxUint - 1, "-1000000001"},
		{math.MaxInt, "9223372036854775807"},
		{math.MinInt + 1, "-9223372036854775807"},
		{math.MinInt, "-9223372036854775808"},
	}
	for _, c := range cases {
		if got := impl.FormatInt(c.n); got != c.want {
			t.Errorf("FormatInt(%d): got %q, want %q", c.n, got, c.want)
		}
	}
}

func TestParseUintRoundTrip(t *testing.T) {
	numbers := []int{120, 65535, 65536, 4294967, 99999999, 100000000, 999999999, impl.MaxUint - 1, impl.MaxUint}
	for n := range 1200 {
		numbers = append(numbers, n)
	}
	for _, n := range numbers {
		s := strconv.Itoa(n)
		if got, ok := impl.ParseUint(s); got != n || !ok {
			t.Errorf("ParseUint(%q): got %d, %v", s, got, ok)
		}
		if got, ok := impl.ParseUint("0" + s); got != 0 || ok {
			t.Errorf("ParseUint(%q): got %d, %v", "0"+s, got, ok)
		}
	}
}

func TestParseUintRejects(t *testing.T) {
	for _, s := range []string{
		"", "00", "01", "007", "0000000000", "00000000001", "01000000000", // leading zeros
		"-1", "-0", "+0", "+1", "-1000000000", "--1", "-", "+", "-9223372036854775808",
		"1000000001", "1000000010", "2000000000", "9999999999", "10000000000", // past the limit
		"4294967296", "4294967297", "9223372036854775807", "9223372036854775808",
		"18446744073709551616", "18446744073709551617", "18446744073709551736", // 2^64 and 120 past it
		strings.Repeat("9", 100), strings.Repeat("1", impl.MaxInputLen+1),
		" 1", "1 ", "1 2", " ", "\t1", "1\n", "\x001", "1\x00",
		"a", "1a", "a1", "1a1", "x", "0x1", "0b1", "0o1", "1_000", "1,000", "1.0", "1e3", ".", "/", ":",
		"1:", "1/", "\u0661", "\u00b2", "\xff", "nil", "Inf",
	} {
		if got, ok := impl.ParseUint(s); got != 0 || ok {
			t.Errorf("ParseUint(%.30q): got %d, %v", s, got, ok)
		}
	}
}

func TestParseUintOfEveryByte(t *testing.T) {
	for b := range 256 {
		digit := b >= '0' && b <= '9'
		for _, s := range []string{string([]byte{byte(b)}), string([]byte{'1', byte(b)})} {
			if _, ok := impl.ParseUint(s); ok != digit {
				t.Errorf("ParseUint(%q): got %v", s, ok)
			}
		}
	}
}

func TestSplitFields(t *testing.T) {
	cases := []struct {
		line string
		want []string
	}{
		{"", nil}, {" ", nil}, {"     ", nil},
		{"a", []string{"a"}}, {" a", []string{"a"}}, {"a ", []string{"a"}}, {"   abc   ", []string{"abc"}},
		{"a b", []string{"a", "b"}}, {"a    b", []string{"a", "b"}},
		{"  send 12  x ", []string{"send", "12", "x"}},
		{"x x x", []string{"x", "x", "x"}},
		{"! ~ !~", []string{"!", "~", "!~"}},
		{"a,b;c \"d e\" -1", []string{"a,b;c", "\"d", "e\"", "-1"}},
		{"00 01", []string{"00", "01"}},
	}
	for _, c := range cases {
		if got, ok := impl.SplitFields(c.line); !slices.Equal(got, c.want) || !ok {
			t.Errorf("SplitFields(%q): got %q, %v", c.line, got, ok)
		}
	}
}

func checkRejectedLine(t *testing.T, line string) {
	t.Helper()
	if got, ok := impl.SplitFields(line); len(got) != 0 || ok {
		t.Errorf("SplitFields of %d bytes %.40q: got %q, %v", len(line), line, got, ok)
	}
}

func TestSplitFieldsOfEveryByte(t *testing.T) {
	for b := range 256 {
		c := string([]byte{byte(b)})
		for _, line := range []string{c, c + "a", "a" + c, "a b" + c + "c d", " " + c + " ", "a " + c, strings.Repeat("a", impl.MaxLineLen-1) + c} {
			if b < 32 || b > 126 {
				checkRejectedLine(t, line)
				continue
			}
			if got, ok := impl.SplitFields(line); strings.Join(got, " ") != strings.Join(strings.Fields(line), " ") || !ok {
				t.Errorf("SplitFields(%.40q): got %q, %v", line, got, ok)
			}
		}
	}
	checkRejectedLine(t, "caf\u00e9")
	checkRejectedLine(t, "a\u00a0b")
	checkRejectedLine(t, "a\tb")
	checkRejectedLine(t, "a b\n")
	checkRejectedLine(t, "a b\r\n")
	checkRejectedLine(t, "\x1f\x7f")
}

func TestSplitFieldsAtTheLengthLimit(t *testing.T) {
	long := strings.Repeat("a", impl.MaxLineLen)
	if got, ok := impl.SplitFields(long); !slices.Equal(got, []string{long}) || !ok {
		t.Errorf("a field of MaxLineLen bytes: got %d fields, %v", len(got), ok)
	}
	spaces := strings.Repeat(" ", impl.MaxLineLen)
	if got, ok := impl.SplitFields(spaces); len(got) != 0 || !ok {
		t.Errorf("MaxLineLen spaces: got %q, %v", got, ok)
	}
	if got, ok := impl.SplitFields(spaces[1:] + "z"); !slices.Equal(got, []string{"z"}) || !ok {
		t.Errorf("a field at the end of MaxLineLen bytes: got %q, %v", got, ok)
	}
	for _, line := range []string{long + "a", long + " ", " " + long, spaces + " ", spaces + "z", "a" + spaces, long + long} {
		checkRejectedLine(t, line)
	}
}

func TestSplitFieldsAtTheFieldLimit(t *testing.T) {
	fields := make([]string, impl.MaxFieldsPerLine)
	for i := range fields {
		fields[i] = "f" + strconv.Itoa(i)
	}
	for n := range len(fields) + 1 {
		for _, gap := range []string{" ", "    "} {
			line := gap + strings.Join(fields[:n], gap) + gap
			if got, ok := impl.SplitFields(line); !slices.Equal(got, fields[:n]) || !ok {
				t.Errorf("SplitFields(%q): got %q, %v", line, got, ok)
			}
		}
	}
	most := strings.Join(fields, " ")
	for _, line := range []string{most + " x", most + " x ", "x  " + most, most + " " + most, strings.Repeat("a ", impl.MaxLineLen/2)} {
		checkRejectedLine(t, line)
	}
}

func TestSplitFieldsResultsAreSeparate(t *testing.T) {
	first, _ := impl.SplitFields("a b c")
	second, _ := impl.SplitFields("a b c")
	first[0] = "changed"
	_ = append(first[:1], "changed")
	if !slices.Equal(second, []string{"a", "b", "c"}) {
		t.Errorf("a changed result shows in another one: %q", second)
	}
}

func TestClamp(t *testing.T) {
	cases := []struct{ n, low, high, want int }{
		{9, 1, 5, 5}, {0, 1, 5, 1}, {3, 1, 5, 3}, {1, 1, 5, 1}, {5, 1, 5, 5}, {6, 1, 5, 5},
		{-9, -5, -1, -5}, {0, -5, -1, -1}, {-3, -5, -1, -3},
		{7, 4, 4, 4}, {1, 4, 4, 4}, {4, 4, 4, 4},
		{0, 5, 1, 5}, {3, 5, 1, 5}, {9, 5, 1, 5}, {1, 5, 1, 5}, {5, 5, 1, 5}, {5, 5, 4, 5}, {4, 5, 4, 5},
		{0, math.MaxInt, math.MinInt, math.MaxInt}, {math.MinInt, math.MaxInt, math.MinInt, math.MaxInt},
		{math.MinInt, math.MinInt, math.MaxInt, math.MinInt}, {math.MaxInt, math.MinInt, math.MaxInt, math.MaxInt},
		{math.MinInt, 0, 10, 0}, {math.MaxInt, 0, 10, 10},
		{math.MaxInt, math.MinInt, math.MinInt, math.MinInt}, {math.MinInt, math.MaxInt, math.MaxInt, math.MaxInt},
	}
	for _, c := range cases {
		if got := impl.Clamp(c.n, c.low, c.high); got != c.want {
			t.Errorf("Clamp(%d, %d, %d): got %d, want %d", c.n, c.low, c.high, got, c.want)
		}
	}
}

func TestClampIsInTheRange(t *testing.T) {
	for n := -8; n <= 8; n++ {
		for low := -6; low <= 6; low++ {
			if got := impl.Clamp(n, low, low-1); got != low {
				t.Errorf("Clamp(%d, %d, %d): got %d", n, low, low-1, got)
			}
			for high := low; high <= 6; high++ {
				got := impl.Clamp(n, low, high)
				inside := n >= low && n <= high
				if got < low || got > high || inside && got != n || n < low && got != low || n > high && got != high {
					t.Errorf("Clamp(%d, %d, %d): got %d", n, low, high, got)
				}
			}
		}
	}
}
