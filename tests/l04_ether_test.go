package tests

import (
	"strings"
	"testing"

	"loop.example/g03312/impl"
)

func sampleEth(vlan int) impl.Eth {
	return impl.Eth{Dst: 0x010203040506, Src: 0xf1f2f3f4f5f6, Vlan: vlan, Type: 0x86dd, Body: text(46)}
}

// ethFine reports whether a frame is accepted; it fails the test if EthOk and BuildEth disagree.
func ethFine(t *testing.T) func(impl.Eth) bool {
	return func(e impl.Eth) bool {
		s, ok := impl.BuildEth(e)
		if is := impl.EthOk(e); is != ok || ok != (s != "") {
			t.Errorf("%+v: EthOk returns %v, BuildEth %q, %v", e, is, s, ok)
		}
		return ok
	}
}

func TestEthConstants(t *testing.T) {
	if impl.MinBody != 46 || impl.MaxBody != 400 || impl.TagType != 0x8100 {
		t.Error("other constants", impl.MinBody, impl.MaxBody, impl.TagType)
	}
}

func TestEthOk(t *testing.T) {
	for _, vlan := range []int{-1, 0, 9} {
		checkFields(t, sampleEth(vlan), []field[impl.Eth]{
			{"Dst", 0, most48, func(e *impl.Eth, n int) { e.Dst = n }},
			{"Src", 0, most48, func(e *impl.Eth, n int) { e.Src = n }},
			{"Vlan", -1, 4095, func(e *impl.Eth, n int) { e.Vlan = n }},
		}, ethFine(t))
	}
	if impl.EthOk(impl.Eth{}) {
		t.Error("the zero frame is accepted")
	}
}

func TestEthType(t *testing.T) {
	for _, vlan := range []int{-1, 0, 9} {
		types := append([]int{-1, 0, 1500, 1535, 1536, 1537, 2048, 33023, 33024, 33025, 65534, 65535, 65536, 33024 + 65536}, far...)
		for _, n := range types {
			e := sampleEth(vlan)
			e.Type = n
			if got, want := ethFine(t)(e), n >= 1536 && n <= 65535 && n != 33024; got != want {
				t.Errorf("the type %d: accepted is %v", n, got)
			}
		}
	}
}

func TestEthBodyLength(t *testing.T) {
	for n := range 420 {
		e := sampleEth(-1)
		e.Body = text(n)
		if got, want := ethFine(t)(e), n >= 46 && n <= 400; got != want {
			t.Errorf("a body of %d bytes: accepted is %v", n, got)
		}
	}
}

func TestBuildEth(t *testing.T) {
	body := text(46)
	macs := "\x01\x02\x03\x04\x05\x06\xf1\xf2\xf3\xf4\xf5\xf6"
	if s, ok := impl.BuildEth(sampleEth(-1)); s != macs+"\x86\xdd"+body || !ok {
		t.Errorf("an untagged frame: %q, %v", s, ok)
	}
	if s, ok := impl.BuildEth(sampleEth(0)); s != macs+"\x81\x00\x00\x00\x86\xdd"+body || !ok {
		t.Errorf("a frame with the tag 0: %q, %v", s, ok)
	}
	if s, ok := impl.BuildEth(sampleEth(0xabc)); s != macs+"\x81\x00\x0a\xbc\x86\xdd"+body || !ok {
		t.Errorf("a tagged frame: %q, %v", s, ok)
	}
	broadcast := sampleEth(-1)
	broadcast.Dst, broadcast.Src = most48, 0
	if s, ok := impl.BuildEth(broadcast); s != "\xff\xff\xff\xff\xff\xff\x00\x00\x00\x00\x00\x00\x86\xdd"+body || !ok {
		t.Errorf("a frame for all: %q, %v", s, ok)
	}
}

// manyEth are frames at the bounds of all fields.
func manyEth() []impl.Eth {
	var list []impl.Eth
	for _, vlan := range []int{-1, 0, 1, 255, 256, 4094, 4095} {
		for _, kind := range []int{1536, 2048, 33023, 33025, 65535} {
			for _, n := range []int{46, 47, 399, 400} {
				for _, mac := range []int{0, 1, 1 << 32, 1 << 40, most32, most48} {
					list = append(list, impl.Eth{Dst: mac, Src: most48 - mac, Vlan: vlan, Type: kind, Body: text(n)})
				}
			}
		}
	}
	return list
}

func TestEthRoundTrip(t *testing.T) {
	for _, e := range manyEth() {
		s, ok := impl.BuildEth(e)
		if back, is := impl.ParseEth(s); back != e || !is || !ok {
			t.Errorf("%+v: parsed as %+v, %v", e, back, is)
		}
	}
}

func checkNoEth(t *testing.T, s string) {
	t.Helper()
	if e, ok := impl.ParseEth(s); e != (impl.Eth{}) || ok {
		t.Errorf("ParseEth of %d bytes: got %+v, %v", len(s), e, ok)
	}
	if tagged, ok := impl.InsertTag(s, 5); tagged != "" || ok {
		t.Errorf("InsertTag of %d bytes: got %q, %v", len(s), tagged, ok)
	}
	if same, vlan := impl.StripTag(s); same != s || vlan != -1 {
		t.Errorf("StripTag of %d bytes: got %q, %d", len(s), same, vlan)
	}
}

func TestParseEthRefuses(t *testing.T) {
	macs := strings.Repeat("m", 12)
	for n := range 60 {
		checkNoEth(t, strings.Repeat("m", n))
		checkNoEth(t, (macs + "\x08\x00" + text(46))[:n])
	}
	for n := range 64 {
		checkNoEth(t, (macs + "\x81\x00\x00\x05\x08\x00" + text(46))[:n])
	}
	for _, header := range []string{"\x00\x00", "\x00\x2e", "\x05\xff", "\x81\x00\x00\x05\x05\xff", "\x81\x00\x00\x05\x00\x00"} {
		checkNoEth(t, macs+header+text(60))
	}
	// A tag with a priority or of more than 12 bits, and a tag within a tag.
	for _, header := range []string{"\x81\x00\x10\x00", "\x81\x00\x10\x05", "\x81\x00\xff\xff", "\x81\x00\x80\x05", "\x81\x00\x00\x05\x81\x00\x00\x05"} {
		checkNoEth(t, macs+header+"\x08\x00"+text(60))
	}
	checkNoEth(t, macs+"\x08\x00"+text(401))
	checkNoEth(t, macs+"\x08\x00"+text(5000))
	checkNoEth(t, macs+"\x81\x00\x00\x05\x08\x00"+text(401))
}

func TestTags(t *testing.T) {
	for _, e := range manyEth() {
		s, _ := impl.BuildEth(e)
		for _, vlan := range []int{0, 1, 4095} {
			tagged, ok := impl.InsertTag(s, vlan)
			if e.Vlan != -1 {
				if tagged != "" || ok {
					t.Errorf("InsertTag of a tagged frame: got %q, %v", tagged, ok)
				}
				continue
			}
			want := s[:12] + "\x81\x00" + bytes16(vlan) + s[12:]
			if tagged != want || !ok {
				t.Errorf("InsertTag(%q, %d): got %q, %v", s, vlan, tagged, ok)
			}
			if back, got := impl.StripTag(want); back != s || got != vlan {
				t.Errorf("StripTag(%q): got %q, %d", want, back, got)
			}
		}
		stripped, vlan := impl.StripTag(s)
		want := s
		if e.Vlan != -1 {
			want = s[:12] + s[16:]
		}
		if stripped != want || vlan != e.Vlan {
			t.Errorf("StripTag(%q): got %q, %d", s, stripped, vlan)
		}
	}
}

func TestInsertTagRefusesOtherTags(t *testing.T) {
	s, _ := impl.BuildEth(sampleEth(-1))
	for _, vlan := range append([]int{-1, 4096, 65535}, far...) {
		if tagged, ok := impl.InsertTag(s, vlan); tagged != "" || ok {
			t.Errorf("the tag %d: got %q, %v", vlan, tagged, ok)
		}
	}
}

func TestPadBody(t *testing.T) {
	for n := range 420 {
		s := strings.Repeat("x", n)
		want := s + strings.Repeat("\x00", max(0, 46-n))
		if got := impl.PadBody(s); got != want {
			t.Errorf("PadBody of %d bytes: got %q", n, got)
		}
	}
}
