package tests

import (
	"slices"
	"strings"
	"testing"

	"loop.example/g03312/impl"
)

// mappings map, in domain 2, the device pages 3 to 6 to the pages 2, 0, 1 (read only) and 0 again, and in domain 5 the
// device page 3 to page 3.
func mappings() []impl.Mapping {
	return []impl.Mapping{
		{Domain: 2, Virtual: 3, Physical: 2, Writable: true}, {Domain: 2, Virtual: 4, Physical: 0, Writable: true},
		{Domain: 5, Virtual: 3, Physical: 3, Writable: true}, {Domain: 2, Virtual: 5, Physical: 1},
		{Domain: 2, Virtual: 6, Physical: 0, Writable: true}, {Domain: 2, Virtual: 8, Physical: 60, Writable: true},
	}
}

// identity maps the first device pages of a domain to the same pages of memory.
func identity(domain int, pages int) []impl.Mapping {
	var list []impl.Mapping
	for v := range pages {
		list = append(list, impl.Mapping{Domain: domain, Virtual: v, Physical: v, Writable: true})
	}
	return list
}

// invalidMappings are lists of mappings that are not valid.
func invalidMappings() [][]impl.Mapping {
	twice := append(mappings(), impl.Mapping{Domain: 2, Virtual: 3, Physical: 9})
	bad := append(mappings(), impl.Mapping{Domain: 8})
	first := append([]impl.Mapping{{Virtual: -1}}, mappings()...)
	return [][]impl.Mapping{twice, bad, first, manyMappings(97)}
}

// manyMappings are as many valid mappings, of several domains.
func manyMappings(n int) []impl.Mapping {
	var list []impl.Mapping
	for k := range n {
		list = append(list, impl.Mapping{Domain: k % 8, Virtual: 3 + k/8, Physical: k % 4, Writable: true})
	}
	return list
}

func TestMappingsOk(t *testing.T) {
	if impl.MaxMappings != 96 || impl.MaxDomains != 8 || impl.MaxVirtual != 1023 {
		t.Error("other constants")
	}
	for n := range 100 {
		if got := impl.MappingsOk(manyMappings(n)); got != (n <= 96) {
			t.Errorf("%d mappings: got %v", n, got)
		}
	}
	fields := []field[impl.Mapping]{
		{"Domain", 0, 7, func(x *impl.Mapping, n int) { x.Domain = n }},
		{"Virtual", 0, 1023, func(x *impl.Mapping, n int) { x.Virtual = n }},
		{"Physical", 0, 63, func(x *impl.Mapping, n int) { x.Physical = n }},
	}
	for _, writable := range []bool{false, true} {
		x := impl.Mapping{Domain: 1, Virtual: 10, Physical: 20, Writable: writable}
		checkFields(t, x, fields, func(x impl.Mapping) bool { return impl.MappingsOk([]impl.Mapping{x}) })
		checkFields(t, x, fields, func(x impl.Mapping) bool { return impl.MappingsOk([]impl.Mapping{{Domain: 6, Virtual: 6}, x}) })
	}
	for i, list := range invalidMappings() {
		if impl.MappingsOk(list) {
			t.Errorf("the invalid mappings %d are accepted", i)
		}
	}
	for _, other := range []impl.Mapping{{Domain: 1, Virtual: 3, Physical: 2}, {Domain: 2, Virtual: 2, Physical: 2}, {Domain: 3, Virtual: 2, Physical: 2}} {
		if !impl.MappingsOk(append(mappings(), other)) {
			t.Errorf("%+v is refused", other)
		}
	}
	if !impl.MappingsOk(nil) {
		t.Error("no mappings are refused")
	}
}

func TestMapPage(t *testing.T) {
	x := impl.Mapping{Domain: 2, Virtual: 1023, Physical: 63}
	for _, list := range [][]impl.Mapping{nil, mappings(), manyMappings(95)} {
		if got, ok := impl.MapPage(list, x); !ok || !slices.Equal(got, append(slices.Clone(list), x)) {
			t.Errorf("MapPage: got %+v, %v", got, ok)
		}
		checkPure(t, impl.MapPage, list, x)
	}
	refused := []impl.Mapping{{Domain: 2, Virtual: 3}, {Domain: 2, Virtual: 3, Physical: 2, Writable: true}, {Domain: -1}, {Domain: 8}, {Virtual: 1024}, {Physical: 64}, {Physical: -1}, {Virtual: -1}}
	for _, y := range refused {
		if got, ok := impl.MapPage(mappings(), y); ok || !slices.Equal(got, mappings()) {
			t.Errorf("MapPage of %+v: got %+v, %v", y, got, ok)
		}
		checkPure(t, impl.MapPage, mappings(), y)
	}
	for i, list := range append(invalidMappings(), manyMappings(96)) {
		if got, ok := impl.MapPage(list, impl.Mapping{Domain: 7, Virtual: 1000}); ok || !slices.Equal(got, list) {
			t.Errorf("MapPage to the mappings %d: got %v", i, ok)
		}
	}
}

func TestUnmapPage(t *testing.T) {
	for _, list := range [][]impl.Mapping{mappings(), manyMappings(96)} {
		for i, x := range list {
			if got, ok := impl.UnmapPage(list, x.Domain, x.Virtual); !ok || !slices.Equal(got, slices.Concat(list[:i], list[i+1:])) {
				t.Errorf("UnmapPage of %+v: got %+v, %v", x, got, ok)
			}
			checkPure(t, impl.UnmapPage, list, x.Domain, x.Virtual)
		}
	}
	for _, c := range [][2]int{{2, 2}, {2, 7}, {5, 4}, {1, 3}, {-1, 3}, {8, 3}, {2, -1}, {2, 1024}, {0, 0}} {
		if got, ok := impl.UnmapPage(mappings(), c[0], c[1]); ok || !slices.Equal(got, mappings()) {
			t.Errorf("UnmapPage of page %d in domain %d: got %+v, %v", c[1], c[0], got, ok)
		}
		checkPure(t, impl.UnmapPage, mappings(), c[0], c[1])
	}
	for i, list := range invalidMappings() {
		if got, ok := impl.UnmapPage(list, 2, 3); ok || !slices.Equal(got, list) {
			t.Errorf("UnmapPage from the invalid mappings %d: got %v", i, ok)
		}
	}
}

// placeOf is Translate for valid mappings.
func placeOf(list []impl.Mapping, domain int, address int, write bool) int {
	for _, x := range list {
		if x.Domain == domain && address >= 128*x.Virtual && address < 128*x.Virtual+128 && (x.Writable || !write) {
			return 128*x.Physical + address - 128*x.Virtual
		}
	}
	return -1
}

func TestTranslate(t *testing.T) {
	list := append(mappings(), impl.Mapping{Domain: 0, Virtual: 0, Physical: 9, Writable: true}, impl.Mapping{Domain: 7, Virtual: 1023, Physical: 63})
	for _, domain := range append([]int{-1, 0, 1, 2, 5, 7, 8}, far...) {
		addresses := append([]int{-129, -128, -127, -1, 0, 1, 127, 128, 1023 * 128, 1024*128 - 1, 1024 * 128, 1024*128 + 1}, far...)
		for address := 300; address < 1200; address++ {
			addresses = append(addresses, address)
		}
		for _, address := range addresses {
			for _, write := range []bool{false, true} {
				if got, want := impl.Translate(list, domain, address, write), placeOf(list, domain, address, write); got != want {
					t.Errorf("address %d in domain %d, writing %v: got %d, want %d", address, domain, write, got, want)
				}
			}
		}
	}
	for i, list := range invalidMappings() {
		if got := impl.Translate(list, 2, 3*128, false); got != -1 {
			t.Errorf("with the invalid mappings %d: got %d", i, got)
		}
	}
	checkPure(t, impl.Translate, list, 2, 400, true)
}

// writeModel writes byte by byte; it returns false if one of the bytes has no place.
func writeModel(list []impl.Mapping, m impl.Memory, domain int, at int, s string, write bool) (impl.Memory, bool) {
	all := []byte(bytesOf(m))
	for i := range len(s) {
		place := placeOf(list, domain, at+i, write)
		if place < 0 || place >= len(all) {
			return m, false
		}
		all[place] = s[i]
	}
	var after impl.Memory
	for k := range m.Pages {
		after.Pages = append(after.Pages, string(all[128*k:128*k+128]))
	}
	return after, true
}

// readModel reads byte by byte.
func readModel(list []impl.Mapping, m impl.Memory, domain int, at int, n int) (string, bool) {
	all, s := bytesOf(m), ""
	for i := range n {
		place := placeOf(list, domain, at+i, false)
		if place < 0 || place >= len(all) {
			return "", false
		}
		s += all[place : place+1]
	}
	return s, true
}

// checkDma compares DmaRead, DmaWrite and HostWrite with the models.
func checkDma(t *testing.T, list []impl.Mapping, m impl.Memory, domain int, at int, s string) bool {
	t.Helper()
	want, can := readModel(list, m, domain, at, len(s))
	if got, ok := impl.DmaRead(list, m, domain, at, len(s)); got != want || ok != can {
		t.Fatalf("DmaRead of %d bytes at %d: got %q, %v, want %q, %v", len(s), at, got, ok, want, can)
	}
	after, can := writeModel(list, m, domain, at, s, true)
	if got, ok := impl.DmaWrite(list, m, domain, at, s); !sameMemory(got, after) || ok != can {
		t.Fatalf("DmaWrite of %d bytes at %d: got %v, want %v", len(s), at, ok, can)
	}
	host, does := writeModel(list, m, domain, at, s, false)
	if got, ok := impl.HostWrite(list, m, domain, at, s); !sameMemory(got, host) || ok != does {
		t.Fatalf("HostWrite of %d bytes at %d: got %v, want %v", len(s), at, ok, does)
	}
	return can
}

func TestDma(t *testing.T) {
	r := newRandom(17)
	list := mappings()
	for _, pages := range []int{0, 1, 2, 3, 4, 61, 64} {
		m := memory(pages)
		for _, domain := range []int{-1, 0, 2, 5} {
			for _, n := range []int{0, 1, 2, 127, 128, 129, 256, 257, 384, 512, 513} {
				for _, at := range []int{3*128 - 1, 384, 385, 500, 511, 512, 513, 639, 640, 641, 768, 895, 896, 1023, 1024, 1151, 1152} {
					checkDma(t, list, m, domain, at, randomText(r, n))
				}
			}
			for _, at := range append([]int{-1, -128, 1023 * 128, 1024 * 128}, far...) {
				for _, n := range []int{0, 1, 2, 200} {
					checkDma(t, list, m, domain, at, randomText(r, n))
				}
			}
		}
	}
}

func TestDmaOfTheLongestTransfer(t *testing.T) {
	m := memory(64)
	list := identity(0, 40)
	for _, n := range []int{4095, 4096, 4097, 4098, 5120} {
		s := text(n + 100)[100:]
		want, can := "", n <= 4096
		if can {
			want = bytesOf(m)[7 : 7+n]
		}
		if got, ok := impl.DmaRead(list, m, 0, 7, n); got != want || ok != can {
			t.Errorf("reading %d bytes: got %d, %v", n, len(got), ok)
		}
		after := bytesOf(m)
		if can {
			after = put(after, 7, s)
		}
		dma, ok := impl.DmaWrite(list, m, 0, 7, s)
		host, is := impl.HostWrite(list, m, 0, 7, s)
		if bytesOf(dma) != after || ok != can || bytesOf(host) != after || is != can {
			t.Errorf("writing %d bytes: got %v, %v", n, ok, is)
		}
	}
	for _, n := range append([]int{-1, -4096}, far...) {
		if got, ok := impl.DmaRead(list, m, 0, 7, n); got != "" || ok {
			t.Errorf("reading %d bytes: got %q, %v", n, got, ok)
		}
	}
}

func TestDmaRefuses(t *testing.T) {
	m := memory(4)
	checkRefused := func(name string, list []impl.Mapping, m impl.Memory, s string) {
		t.Helper()
		if got, ok := impl.DmaRead(list, m, 2, 384, len(s)); got != "" || ok {
			t.Errorf("%s: DmaRead returns %q, %v", name, got, ok)
		}
		if got, ok := impl.DmaWrite(list, m, 2, 384, s); !sameMemory(got, m) || ok {
			t.Errorf("%s: DmaWrite returns %v", name, ok)
		}
		if got, ok := impl.HostWrite(list, m, 2, 384, s); !sameMemory(got, m) || ok {
			t.Errorf("%s: HostWrite returns %v", name, ok)
		}
	}
	for _, s := range []string{"", "a"} {
		for _, list := range invalidMappings() {
			checkRefused("invalid mappings", list, m, s)
		}
		for _, bad := range invalidMemories() {
			checkRefused("an invalid memory", mappings(), bad, s)
		}
	}
	// Nothing has to be mapped for no bytes.
	for _, at := range append([]int{0, -1}, far...) {
		if s, ok := impl.DmaRead(nil, m, -3, at, 0); s != "" || !ok {
			t.Errorf("reading nothing at %d: got %q, %v", at, s, ok)
		}
		if got, ok := impl.DmaWrite(nil, m, -3, at, ""); !sameMemory(got, m) || !ok {
			t.Errorf("writing nothing at %d: got %v", at, ok)
		}
	}
}

func TestTheLaterOneOfTwoBytesCounts(t *testing.T) {
	// The device pages 4 and 6 have the same place, and page 5 between them is read only.
	list, _ := impl.UnmapPage(mappings(), 2, 5)
	list, _ = impl.MapPage(list, impl.Mapping{Domain: 2, Virtual: 5, Physical: 1, Writable: true})
	s := text(128)[5:] + strings.Repeat("x", 128) + strings.Repeat("y", 28) + "zzzzz"
	got, ok := impl.DmaWrite(list, memory(3), 2, 4*128+5, s)
	want := strings.Repeat("y", 28) + "zzzzz" + text(128)[33:]
	if !ok || got.Pages[0] != want || got.Pages[1] != strings.Repeat("x", 128) || got.Pages[2] != memory(3).Pages[2] {
		t.Errorf("got %q, %v", got.Pages, ok)
	}
}

func TestADeviceChangesOnlyItsWritablePages(t *testing.T) {
	written := 0
	for seed := range uint64(400) {
		r := newRandom(seed)
		m := memory(8)
		var list []impl.Mapping
		for range 10 + r.UintN(20) {
			x := impl.Mapping{Domain: int(r.UintN(2)), Virtual: int(r.UintN(6)), Physical: int(r.UintN(9)), Writable: r.UintN(3) > 0}
			list, _ = impl.MapPage(list, x)
		}
		domain, at, s := int(r.UintN(2)), int(r.UintN(700)), strings.Repeat("\xff", int(r.UintN(400)))
		if checkDma(t, list, m, domain, at, s) {
			written++
		}
		changed, _ := impl.DmaWrite(list, m, domain, at, s)
		pages := impl.WritablePages(list, domain)
		for _, k := range impl.ChangedPages(m, changed) {
			if !slices.Contains(pages, k) {
				t.Fatalf("seed %d: page %d was changed, but only %v are writable", seed, k, pages)
			}
		}
	}
	if written < 50 {
		t.Errorf("only %d of 400 transfers were possible", written)
	}
}

func TestWritablePages(t *testing.T) {
	cases := []struct {
		domain int
		want   []int
	}{{2, []int{0, 2, 60}}, {5, []int{3}}, {0, nil}, {-1, nil}, {8, nil}}
	for _, c := range cases {
		if got := impl.WritablePages(mappings(), c.domain); !slices.Equal(got, c.want) {
			t.Errorf("domain %d: got %v, want %v", c.domain, got, c.want)
		}
	}
	if got := impl.WritablePages(manyMappings(96), 3); !slices.Equal(got, []int{3}) {
		t.Errorf("one page mapped many times: got %v", got)
	}
	for i, list := range invalidMappings() {
		if got := impl.WritablePages(list, 2); got != nil {
			t.Errorf("the invalid mappings %d: got %v", i, got)
		}
	}
	checkPure(t, impl.WritablePages, mappings(), 2)
}

func TestDmaLeavesArgumentsAlone(t *testing.T) {
	m := memory(4)
	checkPure(t, impl.DmaRead, mappings(), m, 2, 400, 200)
	for _, n := range []int{0, 1, 200, 300} {
		checkPure(t, impl.DmaWrite, mappings(), m, 2, 400, text(n))
		checkPure(t, impl.HostWrite, mappings(), m, 2, 400, text(n))
	}
	for _, bad := range invalidMemories() {
		checkPure(t, impl.DmaWrite, mappings(), bad, 2, 400, "a")
		checkPure(t, impl.HostWrite, mappings(), bad, 2, 400, "a")
	}
	checkPure(t, impl.MappingsOk, mappings())
}
