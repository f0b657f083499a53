package tests

import (
	"slices"
	"testing"

	"loop.example/g03312/impl"
)

// functions are three functions at ports, of which the second one is not enabled.
func functions() []impl.VirtualFunction {
	return []impl.VirtualFunction{
		{Domain: 2, Port: 2, Bucket: impl.Bucket{Rate: 60, Burst: 500, Tokens: 150}, Enabled: true, Sent: 4, Refused: 9},
		{Domain: 7, Port: 4, Bucket: impl.Bucket{Burst: 500, Tokens: 500}},
		{Domain: 0, Port: 1, Bucket: impl.Bucket{Rate: 1, Burst: 100000, Tokens: 100000}, Enabled: true},
	}
}

// badFunctions are lists of functions that are not valid.
func badFunctions() [][]impl.VirtualFunction {
	changes := []func([]impl.VirtualFunction){
		func(l []impl.VirtualFunction) { l[0].Domain = 7 }, func(l []impl.VirtualFunction) { l[2].Domain = 2 }, func(l []impl.VirtualFunction) { l[1].Port = 1 },
		func(l []impl.VirtualFunction) { l[0].Port = 5 }, func(l []impl.VirtualFunction) { l[1].Port = 0 }, func(l []impl.VirtualFunction) { l[1].Domain = 8 },
		func(l []impl.VirtualFunction) { l[0].Bucket.Tokens = 501 }, func(l []impl.VirtualFunction) { l[2].Sent = -1 }, func(l []impl.VirtualFunction) { l[2].Refused = 1000000000001 },
	}
	var list [][]impl.VirtualFunction
	for _, change := range changes {
		l := functions()
		change(l)
		list = append(list, l)
	}
	return list
}

func TestFunctionsOk(t *testing.T) {
	set := func(change func(*impl.VirtualFunction, int)) func(*[]impl.VirtualFunction, int) {
		return func(list *[]impl.VirtualFunction, n int) {
			*list = slices.Clone(*list)
			change(&(*list)[0], n)
		}
	}
	counts := []field[[]impl.VirtualFunction]{
		{"Sent", 0, 1000000000000, set(func(f *impl.VirtualFunction, n int) { f.Sent = n })}, {"Refused", 0, 1000000000000, set(func(f *impl.VirtualFunction, n int) { f.Refused = n })},
		{"Tokens", 0, 500, set(func(f *impl.VirtualFunction, n int) { f.Bucket.Tokens = n })},
	}
	places := []field[[]impl.VirtualFunction]{
		{"Domain", 0, 7, set(func(f *impl.VirtualFunction, n int) { f.Domain = n })}, {"Port", 1, 4, set(func(f *impl.VirtualFunction, n int) { f.Port = n })},
	}
	ok := func(list []impl.VirtualFunction) bool { return impl.FunctionsOk(list, ports()) }
	checkFields(t, functions(), counts, ok)
	checkFields(t, functions()[:1], append(counts, places...), ok)
	for domain := -1; domain <= 8; domain++ {
		for port := -1; port <= 5; port++ {
			list := functions()
			list[0].Domain, list[0].Port = domain, port
			want := domain >= 0 && domain < 7 && domain != 0 && (port == 2 || port == 3)
			if got := ok(list); got != want {
				t.Errorf("the domain %d and the port %d: got %v", domain, port, got)
			}
		}
	}
	for n := range 6 {
		list := functions()
		if got := impl.FunctionsOk(list[2:], ports()[:n]); got != (n >= 2) {
			t.Errorf("%d ports: got %v", n, got)
		}
		if got := impl.FunctionsOk(nil, ports()[:n]); got != (n >= 1) {
			t.Errorf("no functions and %d ports: got %v", n, got)
		}
	}
	for i, list := range badFunctions() {
		if ok(list) {
			t.Errorf("the invalid functions %d are accepted", i)
		}
	}
	for i, list := range badPorts() {
		if impl.FunctionsOk(functions(), list) || impl.FunctionsOk(nil, list) {
			t.Errorf("the invalid ports %d are accepted", i)
		}
	}
	checkPure(t, impl.FunctionsOk, functions(), ports())
}

// sendFromModel is SendFrom as the document says it.
func sendFromModel(list []impl.VirtualFunction, ports []impl.Port, k int, p impl.Packet) ([]impl.VirtualFunction, []int, bool) {
	if !impl.FunctionsOk(list, ports) || !impl.PacketOk(p) || k < 0 || k >= len(list) {
		return list, nil, false
	}
	list = slices.Clone(list)
	image, _ := impl.BuildImage(p)
	if !list[k].Enabled || entryModel(ports, list[k].Port, p) == -1 || list[k].Bucket.Tokens < len(image) {
		list[k].Refused++
		return list, nil, false
	}
	list[k].Sent++
	list[k].Bucket.Tokens -= len(image)
	return list, switchModel(ports, list[k].Port, p), true
}

func checkSendFrom(t *testing.T, list []impl.VirtualFunction, ports []impl.Port, k int, p impl.Packet) ([]impl.VirtualFunction, bool) {
	t.Helper()
	want, wantPorts, can := sendFromModel(list, ports, k, p)
	got, out, ok := impl.SendFrom(list, ports, k, p)
	if !slices.Equal(got, want) || !slices.Equal(out, wantPorts) || ok != can || !ok && out != nil {
		t.Errorf("function %d of %+v sends %+v: got %+v, %v, %v, want %+v, %v, %v", k, list, p, got, out, ok, want, wantPorts, can)
	}
	return got, ok
}

func TestSendFrom(t *testing.T) {
	for _, k := range append([]int{-1, 0, 1, 2, 3}, far...) {
		for _, p := range switched() {
			checkSendFrom(t, functions(), ports(), k, p)
		}
	}
	p := udp("x")
	p.SrcMac, p.DstMac, p.Vlan = 22, most48, 9
	image, _ := impl.BuildImage(p)
	for tokens := len(image) - 2; tokens < len(image)+2; tokens++ {
		list := functions()
		list[0].Bucket.Tokens = tokens
		if _, ok := checkSendFrom(t, list, ports(), 0, p); ok != (tokens >= len(image)) {
			t.Errorf("%d tokens for %d bytes: got %v", tokens, len(image), ok)
		}
	}
	list, out, ok := impl.SendFrom(functions(), ports(), 0, p)
	want := functions()
	want[0].Sent, want[0].Bucket.Tokens = 5, 150-len(image)
	if !ok || !slices.Equal(out, []int{4}) || !slices.Equal(list, want) {
		t.Errorf("got %+v, %v, %v", list, out, ok)
	}
	// A packet that leaves nowhere is sent, too.
	nowhere := p
	nowhere.DstMac = 50
	if list, out, ok := impl.SendFrom(functions(), ports(), 0, nowhere); !ok || len(out) != 0 || list[0].Sent != 5 {
		t.Errorf("a packet to nobody: got %+v, %v, %v", list, out, ok)
	}
	for i, bad := range badFunctions() {
		for k := range bad {
			if got, out, ok := impl.SendFrom(bad, ports(), k, p); !slices.Equal(got, bad) || out != nil || ok {
				t.Errorf("the invalid functions %d: got %+v, %v, %v", i, got, out, ok)
			}
		}
		checkPure(t, impl.SendFrom, bad, ports(), 0, p)
	}
	for _, bad := range badPorts() {
		checkSendFrom(t, functions(), bad, 0, p)
	}
	most := functions()
	most[0].Sent, most[2].Refused = 1000000000000, 1000000000000
	next, ok := checkSendFrom(t, most, ports(), 0, p)
	if !ok || next[0].Sent != 1000000000001 || impl.FunctionsOk(next, ports()) {
		t.Errorf("as many packets as possible: got %+v, %v", next, ok)
	}
	checkSendFrom(t, most, ports(), 2, withTag(p, 9))
	checkPure(t, impl.SendFrom, functions(), ports(), 0, p)
	checkPure(t, impl.SendFrom, functions(), ports(), 1, p)
}

func TestTickFunctions(t *testing.T) {
	for _, ticks := range append([]int{-1, 0, 1, 2, 5, 1000, 1000000, 1000001}, far...) {
		for _, list := range append(badFunctions(), functions(), nil) {
			want := slices.Clone(list)
			for k := range want {
				want[k].Bucket = impl.RefillBucket(want[k].Bucket, ticks)
			}
			if got := impl.TickFunctions(list, ticks); !slices.Equal(got, want) {
				t.Errorf("%+v after %d ticks: got %+v", list, ticks, got)
			}
		}
		checkPure(t, impl.TickFunctions, functions(), ticks)
	}
	if got := impl.TickFunctions(functions(), 1)[0].Bucket.Tokens; got != 210 {
		t.Errorf("after a tick there are %d tokens", got)
	}
}

// apartFunctions is FunctionsApart as the document says it.
func apartFunctions(list []impl.VirtualFunction, maps []impl.Mapping) bool {
	for i, a := range list {
		for _, b := range list[:i] {
			for _, page := range impl.WritablePages(maps, a.Domain) {
				if slices.Contains(impl.WritablePages(maps, b.Domain), page) {
					return false
				}
			}
		}
	}
	return true
}

func TestFunctionsApart(t *testing.T) {
	in := func(domains ...int) []impl.VirtualFunction {
		var list []impl.VirtualFunction
		for _, domain := range domains {
			list = append(list, impl.VirtualFunction{Domain: domain})
		}
		return list
	}
	maps := []impl.Mapping{
		{Domain: 0, Virtual: 1, Physical: 3, Writable: true}, {Domain: 0, Virtual: 2, Physical: 3, Writable: true}, {Domain: 1, Virtual: 1, Physical: 3},
		{Domain: 2, Virtual: 1, Physical: 4, Writable: true}, {Domain: 3, Virtual: 9, Physical: 63, Writable: true}, {Domain: 4, Virtual: 1, Physical: 63, Writable: true},
		{Domain: 5, Virtual: 1, Physical: 0, Writable: true}, {Domain: 6, Virtual: 1, Physical: 0, Writable: true},
	}
	cases := []struct {
		list []impl.VirtualFunction
		want bool
	}{
		{nil, true}, {in(0), true}, {in(0, 1), true}, {in(1, 0, 2), true}, {in(3, 4), false}, {in(4, 0, 3), false}, {in(5, 6), false}, {in(0, 2, 5, 3, 1, 7), true},
		{in(0, 0), false}, {in(1, 1), true}, {in(7, 7, 7), true}, {in(2, 0, 2), false}, {in(-1, 8, 99), true}, {in(1, 2, 3, 4, 5), false},
	}
	for _, c := range cases {
		if got := impl.FunctionsApart(c.list, maps); got != c.want {
			t.Errorf("%+v: got %v", c.list, got)
		}
		if got := impl.FunctionsApart(c.list, append(slices.Clone(maps), maps[0])); !got {
			t.Errorf("%+v with invalid mappings: got %v", c.list, got)
		}
		checkPure(t, impl.FunctionsApart, c.list, maps)
	}
	for seed := range uint64(400) {
		r := newRandom(seed)
		var maps []impl.Mapping
		for k := range r.UintN(12) {
			maps = append(maps, impl.Mapping{Domain: int(r.UintN(4)), Virtual: int(k), Physical: int(r.UintN(uint(4 + seed%61))), Writable: r.UintN(3) > 0})
		}
		list := in(0, 1, 2, 3, 1)[:r.UintN(6)]
		if got, want := impl.FunctionsApart(list, maps), apartFunctions(list, maps); got != want {
			t.Errorf("%+v with %+v: got %v", list, maps, got)
		}
	}
}

func TestFunctionAt(t *testing.T) {
	list := append(functions(), functions()[0])
	for port, want := range map[int]int{0: -1, 1: 2, 2: 0, 3: -1, 4: 1, 5: -1, -1: -1} {
		if got := impl.FunctionAt(list, port); got != want {
			t.Errorf("port %d: got %d", port, got)
		}
	}
	if impl.FunctionAt(nil, 0) != -1 || impl.FunctionAt([]impl.VirtualFunction{{}}, 0) != 0 {
		t.Error("the port 0 is not found as it has to be")
	}
	for i, bad := range badFunctions() {
		if got := impl.FunctionAt(bad, bad[2].Port); got < 0 || bad[got].Port != bad[2].Port {
			t.Errorf("the invalid functions %d: got %d", i, got)
		}
	}
}

// grantModel is GrantPages as the document says it.
func grantModel(list []impl.VirtualFunction, maps []impl.Mapping, k int, virtual int, physical []int) ([]impl.Mapping, bool) {
	if k < 0 || k >= len(list) {
		return maps, false
	}
	granted := maps
	for i, page := range physical {
		next, ok := impl.MapPage(granted, impl.Mapping{Domain: list[k].Domain, Virtual: virtual + i, Physical: page, Writable: true})
		if !ok {
			return maps, false
		}
		granted = next
	}
	if !apartFunctions(list, granted) {
		return maps, false
	}
	return granted, true
}

func TestGrantPages(t *testing.T) {
	base := []impl.Mapping{{Domain: 2, Virtual: 1, Physical: 3, Writable: true}, {Domain: 0, Virtual: 9, Physical: 4, Writable: true}, {Domain: 7, Virtual: 9, Physical: 5}}
	shared := append(slices.Clone(base), impl.Mapping{Domain: 7, Virtual: 4, Physical: 3, Writable: true})
	invalid := append(slices.Clone(base), base[0])
	done := map[bool]int{}
	for _, maps := range [][]impl.Mapping{nil, base, shared, invalid, manyMappings(95), manyMappings(96)} {
		for _, k := range append([]int{-1, 0, 1, 2, 3}, far...) {
			for _, virtual := range append([]int{-1, 0, 7, 8, 1022, 1023, 1024}, far...) {
				for _, physical := range [][]int{nil, {3}, {4}, {5, 6}, {8, 8}, {63, 64}, {-1}, {9, 10, 11}} {
					want, can := grantModel(functions(), maps, k, virtual, physical)
					got, ok := impl.GrantPages(functions(), maps, k, virtual, physical)
					if !slices.Equal(got, want) || ok != can {
						t.Errorf("pages %v at %d for function %d of %+v: got %+v, %v", physical, virtual, k, maps, got, ok)
					}
					done[ok]++
				}
			}
		}
	}
	if done[true] < 100 || done[false] < 100 {
		t.Errorf("granted: %v", done)
	}
	got, ok := impl.GrantPages(functions(), base, 1, 9, []int{5, 6})
	if ok || !slices.Equal(got, base) {
		t.Errorf("a page that is mapped already: got %+v, %v", got, ok)
	}
	got, ok = impl.GrantPages(functions(), base, 1, 10, []int{5, 6})
	want := append(slices.Clone(base), impl.Mapping{Domain: 7, Virtual: 10, Physical: 5, Writable: true}, impl.Mapping{Domain: 7, Virtual: 11, Physical: 6, Writable: true})
	if !ok || !slices.Equal(got, want) {
		t.Errorf("two pages: got %+v, %v", got, ok)
	}
	checkPure(t, impl.GrantPages, functions(), base, 1, 10, []int{5, 6})
	checkPure(t, impl.GrantPages, functions(), base, 1, 9, []int{5, 6})
	checkPure(t, impl.GrantPages, functions(), base, 5, 9, []int{5, 6})
	checkPure(t, impl.GrantPages, functions(), base, 1, 10, []int{3})
	checkPure(t, impl.GrantPages, functions(), base, 1, 10, []int(nil))
}

func TestFunctionsNeverChangeEachOthersPages(t *testing.T) {
	list := functions()
	written := 0
	for seed := range uint64(60) {
		r := newRandom(seed)
		var maps []impl.Mapping
		for range 20 {
			var pages []int
			for range 1 + r.UintN(3) {
				pages = append(pages, int(r.UintN(20)))
			}
			maps, _ = impl.GrantPages(list, maps, r.IntN(3), int(r.UintN(30)), pages)
		}
		m := memory(20)
		owner := make([]int, 20)
		for k, f := range list {
			for _, page := range impl.WritablePages(maps, f.Domain) {
				if owner[page] != 0 {
					t.Fatalf("seed %d: page %d belongs to the functions %d and %d", seed, page, owner[page]-1, k)
				}
				owner[page] = k + 1
			}
		}
		for range 40 {
			k := r.IntN(3)
			after, ok := impl.DmaWrite(maps, m, list[k].Domain, int(r.UintN(31*128)), randomText(r, int(r.UintN(200))))
			for _, page := range impl.ChangedPages(m, after) {
				if owner[page] != k+1 {
					t.Fatalf("seed %d: function %d changes page %d", seed, k, page)
				}
			}
			if ok {
				written++
			}
			m = after
		}
	}
	if written < 200 {
		t.Errorf("only %d times something was written", written)
	}
}

func TestEachPacketIsCountedOnce(t *testing.T) {
	sent := 0
	for seed := range uint64(40) {
		r := newRandom(seed)
		list := functions()
		asked, counted := 0, 0
		for range 100 {
			k := r.IntN(4)
			p := switched()[r.IntN(len(switched()))]
			if r.UintN(3) == 0 {
				p.SrcMac, p.DstMac, p.Vlan = 22, most48, 9
			}
			before := list
			list, _ = checkSendFrom(t, list, ports(), k, p)
			if impl.PacketOk(p) && k < 3 {
				asked++
				counted += list[k].Sent - before[k].Sent + list[k].Refused - before[k].Refused
				sent += list[k].Sent - before[k].Sent
			}
			for i := range list {
				if i != k && list[i] != before[i] {
					t.Fatalf("seed %d: function %d changes function %d", seed, k, i)
				}
			}
			if r.UintN(4) == 0 {
				list = impl.TickFunctions(list, 1)
			}
		}
		if asked != counted {
			t.Errorf("seed %d: of %d packets, %d were counted", seed, asked, counted)
		}
	}
	if sent < 200 {
		t.Errorf("only %d packets were sent", sent)
	}
}
