package tests

import (
	"slices"
	"testing"

	"loop.example/g03312/impl"
)

func TestStartMove(t *testing.T) {
	for _, m := range append(invalidMemories(), memory(0), memory(1), memory(38), memory(64)) {
		want := impl.Move{Copy: m, Sent: len(m.Pages)}
		if got := impl.StartMove(m); !same(got, want) {
			t.Errorf("%d pages: got %v, %d", len(m.Pages), got.Dirty, got.Sent)
		}
		checkPure(t, impl.StartMove, m)
	}
}

// changed is a memory with other bytes in some pages.
func changed(m impl.Memory, pages ...int) impl.Memory {
	m = copyOf(m)
	for _, page := range pages {
		m.Pages[page] = flip(m.Pages[page], page)
	}
	return m
}

// noteModel is NoteChanges as the document says it.
func noteModel(v impl.Move, before impl.Memory, after impl.Memory) impl.Move {
	dirty := slices.Clone(v.Dirty)
	for _, page := range impl.ChangedPages(before, after) {
		if slices.Contains(dirty, page) {
			continue
		}
		at := 0
		for at < len(dirty) && dirty[at] < page {
			at++
		}
		dirty = slices.Concat(dirty[:at], []int{page}, dirty[at:])
	}
	return impl.Move{Copy: v.Copy, Dirty: dirty, Sent: v.Sent}
}

func TestNoteChanges(t *testing.T) {
	cases := []struct {
		dirty, pages, want []int
	}{
		{nil, nil, nil}, {nil, []int{7, 2, 9}, []int{2, 7, 9}}, {[]int{3, 8}, []int{3, 8}, []int{3, 8}}, {[]int{3, 8}, []int{0, 3, 5, 9}, []int{0, 3, 5, 8, 9}},
		// Dirty need not be ascending, nor have pages that exist.
		{[]int{8, 3}, []int{5}, []int{5, 8, 3}}, {[]int{2, 8, 3}, []int{9, 5}, []int{2, 5, 8, 3, 9}}, {[]int{-5, 99, 4, 4}, []int{3, 4}, []int{-5, 3, 99, 4, 4}},
	}
	for _, c := range cases {
		v := impl.Move{Copy: memory(3), Dirty: c.dirty, Sent: 7}
		got := impl.NoteChanges(v, memory(10), changed(memory(10), c.pages...))
		if !same(got, impl.Move{Copy: memory(3), Dirty: c.want, Sent: 7}) {
			t.Errorf("%v changed in %v: got %v", c.pages, c.dirty, got.Dirty)
		}
		checkPure(t, impl.NoteChanges, v, memory(10), changed(memory(10), c.pages...))
	}
	// Pages that are new count as changed, and those that are gone do not.
	if got := impl.NoteChanges(impl.Move{Dirty: []int{1}}, memory(2), memory(4)).Dirty; !slices.Equal(got, []int{1, 2, 3}) {
		t.Errorf("new pages: got %v", got)
	}
	if got := impl.NoteChanges(impl.Move{Dirty: []int{1}}, memory(4), memory(2)).Dirty; !slices.Equal(got, []int{1}) {
		t.Errorf("missing pages: got %v", got)
	}
	for seed := range uint64(100) {
		r := newRandom(seed)
		var dirty, pages []int
		for range r.UintN(8) {
			dirty = append(dirty, int(r.UintN(14))-2)
		}
		for range r.UintN(8) {
			pages = append(pages, int(r.UintN(10)))
		}
		slices.Sort(pages)
		v := impl.Move{Copy: memory(2), Dirty: dirty, Sent: -3}
		after := changed(memory(10), slices.Compact(pages)...)
		if got, want := impl.NoteChanges(v, memory(10), after), noteModel(v, memory(10), after); !same(got, want) {
			t.Errorf("%v changed in %v: got %v, want %v", pages, dirty, got.Dirty, want.Dirty)
		}
	}
}

func TestCopyRound(t *testing.T) {
	m := changed(memory(6), 0, 1, 2, 3, 4, 5)
	for _, dirty := range [][]int{nil, {0}, {5}, {1, 3}, {3, 1, 3, 3}, {-1, 6, 7, 2}, far} {
		for _, pages := range []int{0, 2, 6, 9} {
			v := impl.Move{Copy: memory(pages), Dirty: dirty, Sent: 40}
			want := impl.Move{Copy: memory(pages), Sent: 40}
			for _, page := range dirty {
				if page >= 0 && page < 6 && page < pages {
					want.Copy.Pages[page] = m.Pages[page]
					want.Sent++
				}
			}
			if got := impl.CopyRound(v, m); !same(got, want) {
				t.Errorf("%v of %d pages: got %v, %d", dirty, pages, got.Dirty, got.Sent)
			}
			checkPure(t, impl.CopyRound, v, m)
		}
	}
}

func TestFinishMove(t *testing.T) {
	h := busyHost(t)
	before := changed(h.Memory, 3, 20)
	cases := []struct {
		name string
		v    impl.Move
		want bool
	}{
		{"a copy", impl.StartMove(h.Memory), true}, {"dirty pages", impl.Move{Copy: before, Dirty: []int{3, 20}}, true}, {"a missing dirty page", impl.Move{Copy: before, Dirty: []int{20}}, false},
		{"a page less", impl.Move{Copy: impl.Memory{Pages: h.Memory.Pages[:37]}}, false}, {"a page more", impl.Move{Copy: impl.Memory{Pages: append(slices.Clone(h.Memory.Pages), before.Pages[3])}}, false},
		{"nothing", impl.Move{}, false}, {"clean pages are dirty", impl.Move{Copy: h.Memory, Dirty: []int{5, 6, 99}, Sent: 4}, true},
	}
	for _, c := range cases {
		want := h
		want.Memory = impl.CopyRound(c.v, h.Memory).Copy
		if got, ok := impl.FinishMove(c.v, h); ok != c.want || !same(got, want) {
			t.Errorf("%s: got %v", c.name, ok)
		}
		checkPure(t, impl.FinishMove, c.v, h)
	}
	for name, bad := range badHosts(t) {
		want := bad
		want.Memory = before
		if got, ok := impl.FinishMove(impl.Move{Copy: before}, bad); ok || !same(got, want) {
			t.Errorf("an invalid host, %s: got %v", name, ok)
		}
	}
	if got, ok := impl.FinishMove(impl.Move{}, impl.Host{}); !ok || !same(got, impl.Host{}) {
		t.Errorf("the zero host: got %v", ok)
	}
}

// shiftModel is ShiftPages as the document says it, for a shift that is possible.
func shiftModel(h impl.Host, shift int) impl.Host {
	n := len(h.Memory.Pages)
	h = copyOf(h)
	pages := make([]string, n)
	for p, page := range h.Memory.Pages {
		pages[(p+shift)%n] = page
	}
	h.Memory.Pages = pages
	for i, x := range h.Maps {
		h.Maps[i].Physical = (x.Physical + shift) % n
	}
	return h
}

func TestShiftPages(t *testing.T) {
	h := busyHost(t)
	fewer := busyHost(t)
	fewer.Memory.Pages, fewer.Maps = fewer.Memory.Pages[:37], fewer.Maps[1:]
	for _, h := range []impl.Host{h, fewer} {
		for shift := range 65 {
			got, ok := impl.ShiftPages(h, shift)
			if !ok || !same(got, shiftModel(h, shift)) || !impl.SameView(h, got) || !impl.SameView(got, h) {
				t.Errorf("shifted by %d: got %v", shift, ok)
			}
		}
	}
	refuse := func(name string, h impl.Host, shift int) {
		t.Helper()
		if got, ok := impl.ShiftPages(h, shift); ok || !same(got, h) {
			t.Errorf("%s: got %v", name, ok)
		}
		checkPure(t, impl.ShiftPages, h, shift)
	}
	for _, shift := range append([]int{-1, 65}, far...) {
		refuse("another shift", h, shift)
	}
	missing, empty, bare := copyOf(h), copyOf(h), copyOf(h)
	missing.Maps[5].Physical = 38
	empty.Memory, bare.Memory, bare.Maps = impl.Memory{}, impl.Memory{}, nil
	refuse("a page that does not exist", missing, 1)
	refuse("no memory", empty, 1)
	refuse("no memory and no mappings", bare, 1)
	for name, bad := range badHosts(t) {
		refuse(name, bad, 1)
	}
	unmapped := copyOf(h)
	unmapped.Maps = nil
	if got, ok := impl.ShiftPages(unmapped, 1); !ok || got.Memory.Pages[0] != h.Memory.Pages[37] {
		t.Errorf("without mappings: got %v", ok)
	}
	checkPure(t, impl.ShiftPages, h, 7)
}

func TestSameView(t *testing.T) {
	h := busyHost(t)
	h.Maps = append(slices.Clone(h.Maps), impl.Mapping{Domain: 3, Virtual: 1, Physical: 2})
	differ := map[string]func(*impl.Host){
		"Base": func(h *impl.Host) { h.Tx.Ring.Base++ }, "Free": func(h *impl.Host) { slices.Reverse(h.Tx.Pool.Free) }, "Size of the pool": func(h *impl.Host) { h.Tx.Pool.Size++ },
		"Base of the pool": func(h *impl.Host) { h.Tx.Pool.Base++ }, "Count of the pool": func(h *impl.Host) { h.Tx.Pool.Count++ },
		"Next": func(h *impl.Host) { h.Tx.Next++ }, "Cookie": func(h *impl.Host) { h.Tx.Waiting[0].Cookie++ }, "Slots": func(h *impl.Host) { h.Tx.Waiting[1].Slots-- },
		"Buffers": func(h *impl.Host) { slices.Reverse(h.Tx.Waiting[1].Buffers) }, "Waiting": func(h *impl.Host) { h.Tx.Waiting = h.Tx.Waiting[:1] },
		"Dropped": func(h *impl.Host) { h.Rx[1].Dropped++ }, "Device": func(h *impl.Host) { h.Rx[0].Device.Count ^= 1 }, "Pools": func(h *impl.Host) { h.Pools[1].Base++ },
		"Vectors": func(h *impl.Host) { h.Vectors[0].MaxTime++ }, "Polling": func(h *impl.Host) { h.Polling[0] = !h.Polling[0] }, "Mac": func(h *impl.Host) { h.Filter.Mac++ },
		"Promiscuous": func(h *impl.Host) { h.Filter.Promiscuous = true }, "Vlans": func(h *impl.Host) { h.Filter.Vlans = h.Filter.Vlans[1:] }, "Rules": func(h *impl.Host) { h.Steering.Rules = h.Steering.Rules[1:] },
		"a rule": func(h *impl.Host) { h.Steering.Rules[0].Priority++ }, "Table": func(h *impl.Host) { h.Steering.Table.Slots[3].State = 2 }, "Key": func(h *impl.Host) { h.Steering.Spread.Key = text(16) },
		"Table of the spread": func(h *impl.Host) { h.Steering.Spread.Table[0] = 1 }, "Streams": func(h *impl.Host) { h.Streams = h.Streams[1:] }, "Data": func(h *impl.Host) { h.Streams[0].Data += "x" },
		"Coalesce": func(h *impl.Host) { h.Coalesce = !h.Coalesce }, "Wire": func(h *impl.Host) { h.Wire[0] += "x" }, "Completed": func(h *impl.Host) { h.Completed = append(h.Completed, 1) },
		"Returned": func(h *impl.Host) { h.Returned[0]++ }, "Counters": func(h *impl.Host) { h.Counters.Taken++ },
		"a mapped byte": func(h *impl.Host) { h.Memory.Pages[0] = flip(h.Memory.Pages[0], 5) }, "a mapping less": func(h *impl.Host) { h.Maps = h.Maps[1:] },
		"a mapping more": func(h *impl.Host) { h.Maps = append(h.Maps, impl.Mapping{Domain: 1}) }, "Domain": func(h *impl.Host) { h.Maps[4].Domain = 1 }, "Virtual": func(h *impl.Host) { h.Maps[4].Virtual = 100 },
		"Writable": func(h *impl.Host) { h.Maps[4].Writable = true }, "Writable and Virtual": func(h *impl.Host) { h.Maps[0].Writable = false },
		"another page": func(h *impl.Host) { h.Maps[0].Physical = 1 }, "no page": func(h *impl.Host) { h.Maps[0].Physical = 38 }, "no memory": func(h *impl.Host) { h.Memory = impl.Memory{} },
	}
	for name, change := range differ {
		other := copyOf(h)
		change(&other)
		if !impl.HostOk(other) {
			t.Errorf("%s: the other host is not valid", name)
		}
		if impl.SameView(h, other) || impl.SameView(other, h) {
			t.Errorf("%s: the hosts are the same", name)
		}
		checkPure(t, impl.SameView, h, other)
		if name != "no page" && name != "no memory" && !impl.SameView(other, copyOf(other)) {
			t.Errorf("%s: the host is not the same as itself", name)
		}
	}
	// A mapping of a page that does not exist corresponds to none, not even to itself.
	none := copyOf(h)
	none.Maps[0].Physical = 38
	if impl.SameView(none, none) {
		t.Error("a mapping without a page corresponds to itself")
	}
	alike := map[string]func(*impl.Host){
		"nothing": func(*impl.Host) {}, "the order of mappings": func(h *impl.Host) { slices.Reverse(h.Maps) },
		"a page more": func(h *impl.Host) { h.Memory.Pages = append(h.Memory.Pages, text(128)) },
		"a copy of a page": func(h *impl.Host) {
			h.Memory.Pages = append(h.Memory.Pages, h.Memory.Pages[h.Maps[3].Physical])
			h.Maps[3].Physical = 38
		},
		"empty lists": func(h *impl.Host) { h.Tx.Waiting[0].Buffers = append([]int{}, h.Tx.Waiting[0].Buffers...) },
	}
	for name, change := range alike {
		other := copyOf(h)
		change(&other)
		if !impl.SameView(h, other) || !impl.SameView(other, h) {
			t.Errorf("%s: the hosts differ", name)
		}
	}
	empty := newHost(t, true, 1, 1)
	filled := copyOf(empty)
	filled.Wire, filled.Completed, filled.Returned, filled.Streams, filled.Tx.Waiting = []string{}, []int{}, []int{}, []impl.Stream{}, []impl.Sent{}
	if !impl.SameView(empty, filled) {
		t.Error("a nil slice and an empty slice differ")
	}
	// A page that no mapping uses can make a host invalid, too.
	odd := copyOf(h)
	odd.Memory.Pages = append(odd.Memory.Pages, "short")
	if impl.SameView(h, odd) || impl.SameView(odd, h) || impl.SameView(odd, odd) {
		t.Error("a host with an invalid page is the same")
	}
	for name, bad := range badHosts(t) {
		if impl.SameView(bad, bad) || impl.SameView(bad, h) || impl.SameView(h, bad) {
			t.Errorf("an invalid host is the same: %s", name)
		}
	}
}

func TestAMovedHostHasTheSameMemory(t *testing.T) {
	rounds, sent := 0, 0
	for seed := range uint64(20) {
		r := newRandom(seed)
		h := newHost(t, seed%2 == 0, 1+int(r.UintN(3)), int(r.UintN(3)))
		for range 20 {
			h = randomStep(t, h, r.Uint64())
		}
		v := impl.StartMove(h.Memory)
		for range 40 {
			next := randomStep(t, h, r.Uint64())
			v = impl.NoteChanges(v, h.Memory, next.Memory)
			h = next
			if !slices.IsSorted(v.Dirty) || !slices.Equal(impl.ChangedPages(v.Copy, h.Memory), slices.DeleteFunc(slices.Clone(v.Dirty), func(p int) bool { return v.Copy.Pages[p] == h.Memory.Pages[p] })) {
				t.Fatalf("seed %d: the dirty pages are %v, %v differ", seed, v.Dirty, impl.ChangedPages(v.Copy, h.Memory))
			}
			if r.UintN(6) == 0 {
				before := v
				v = impl.CopyRound(v, h.Memory)
				rounds++
				sent += v.Sent - before.Sent
				if v.Sent != before.Sent+len(before.Dirty) || !sameMemory(v.Copy, h.Memory) {
					t.Fatalf("seed %d: after a round %d pages were sent, not %d", seed, v.Sent-before.Sent, len(before.Dirty))
				}
			}
		}
		moved, ok := impl.FinishMove(v, h)
		if !ok || !impl.SameView(moved, h) || !same(moved, h) {
			t.Errorf("seed %d: the moved host differs", seed)
		}
	}
	if rounds < 50 || sent < 100 {
		t.Errorf("%d rounds sent %d pages", rounds, sent)
	}
}

func TestAHostOnOtherPagesBehavesAlike(t *testing.T) {
	for seed := range uint64(20) {
		r := newRandom(seed)
		h := newHost(t, seed%2 == 0, 1+int(r.UintN(3)), int(r.UintN(3)))
		for range 20 {
			h = randomStep(t, h, r.Uint64())
		}
		other, ok := impl.ShiftPages(h, int(r.UintN(65)))
		for range 40 {
			step := r.Uint64()
			h, other = randomStep(t, h, step), randomStep(t, other, step)
			if r.UintN(10) == 0 {
				h, other = impl.HostReset(h), impl.HostReset(other)
			}
			if r.UintN(10) == 0 {
				other, ok = impl.ShiftPages(other, int(r.UintN(65)))
			}
			if !ok || !impl.SameView(h, other) || !impl.SameView(other, h) {
				t.Fatalf("seed %d: the hosts differ", seed)
			}
		}
	}
}
