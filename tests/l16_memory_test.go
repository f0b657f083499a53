package tests

import (
	"math"
	"slices"
	"strings"
	"testing"

	"loop.example/g03312/impl"
)

// memory is a memory of pages with different bytes.
func memory(pages int) impl.Memory {
	var m impl.Memory
	for k := range pages {
		m.Pages = append(m.Pages, text(128 + k)[k:])
	}
	return m
}

func sameMemory(a impl.Memory, b impl.Memory) bool { return slices.Equal(a.Pages, b.Pages) }

// bytesOf are all bytes of a memory, one after the other.
func bytesOf(m impl.Memory) string { return strings.Join(m.Pages, "") }

// invalidMemories are memories that are not valid.
func invalidMemories() []impl.Memory {
	short, long, empty := memory(3), memory(3), memory(3)
	short.Pages[1] = text(127)
	long.Pages[2] = text(129)
	empty.Pages[0] = ""
	return []impl.Memory{short, long, empty, memory(65)}
}

func TestMemoryOk(t *testing.T) {
	if impl.PageSize != 128 || impl.MaxPages != 64 {
		t.Error("other constants", impl.PageSize, impl.MaxPages)
	}
	for pages := range 70 {
		if got := impl.MemoryOk(memory(pages)); got != (pages <= 64) {
			t.Errorf("%d pages: got %v", pages, got)
		}
	}
	for i, m := range invalidMemories() {
		if impl.MemoryOk(m) {
			t.Errorf("the invalid memory %d is accepted", i)
		}
	}
	if !impl.MemoryOk(impl.Memory{}) {
		t.Error("the memory without pages is refused")
	}
	checkPure(t, impl.MemoryOk, memory(3))
}

func TestNewMemory(t *testing.T) {
	for pages := range 65 {
		m := impl.NewMemory(pages)
		if len(m.Pages) != pages || bytesOf(m) != strings.Repeat("\x00", 128*pages) || !impl.MemoryOk(m) {
			t.Errorf("%d pages: got %d", pages, len(m.Pages))
		}
	}
	for _, pages := range append([]int{-1, 65, 66, 1000}, far...) {
		if m := impl.NewMemory(pages); len(m.Pages) != 0 {
			t.Errorf("%d pages: got %d", pages, len(m.Pages))
		}
	}
	checkPure(t, impl.NewMemory, 3)
}

// checkMemory reads and writes a memory at a place, and compares with its bytes.
func checkMemory(t *testing.T, m impl.Memory, at int, s string) {
	t.Helper()
	all := bytesOf(m)
	fits := at >= 0 && at <= len(all) && len(s) <= len(all)-at
	want, after := "", all
	if fits {
		want, after = all[at:at+len(s)], put(all, at, s)
	}
	if got, ok := impl.ReadMemory(m, at, len(s)); got != want || ok != fits {
		t.Errorf("reading %d bytes at %d of %d: got %q, %v", len(s), at, len(all), got, ok)
	}
	got, ok := impl.WriteMemory(m, at, s)
	if bytesOf(got) != after || ok != fits || len(got.Pages) != len(m.Pages) || !impl.MemoryOk(got) {
		t.Errorf("writing %d bytes at %d of %d: got %v", len(s), at, len(all), ok)
	}
	if back, is := impl.ReadMemory(got, at, len(s)); is != fits || fits && back != s {
		t.Errorf("what was written at %d is read as %q, %v", at, back, is)
	}
}

func TestReadAndWriteMemory(t *testing.T) {
	for _, pages := range []int{0, 1, 2, 3, 64} {
		m := memory(pages)
		size := 128 * pages
		for _, n := range []int{0, 1, 2, 3, 127, 128, 129, 255, 256, 257, 384, size - 1, size, size + 1, 9000} {
			if n < 0 {
				continue
			}
			s := text(n + 100)[100:]
			for _, at := range []int{0, 1, 126, 127, 128, 129, 200, 255, 256, size - n - 1, size - n, size - n + 1, size - 1, size, size + 1, -1, -n, -128} {
				checkMemory(t, m, at, s)
			}
			for _, at := range far {
				checkMemory(t, m, at, s)
			}
		}
	}
}

func TestReadMemoryRefuses(t *testing.T) {
	m := memory(2)
	for _, n := range []int{-1, -2, -128, math.MinInt, math.MinInt + 1, 257, math.MaxInt, math.MaxInt - 1, 1 << 40} {
		for _, at := range append([]int{-1, 0, 1, 128, 255, 256}, far...) {
			if got, ok := impl.ReadMemory(m, at, n); got != "" || ok {
				t.Errorf("reading %d bytes at %d: got %q, %v", n, at, got, ok)
			}
		}
	}
	for i, m := range invalidMemories() {
		for _, s := range []string{"", "a", text(128)} {
			for _, at := range []int{0, 128, 200, -1} {
				if got, ok := impl.ReadMemory(m, at, len(s)); got != "" || ok {
					t.Errorf("reading the invalid memory %d: got %q, %v", i, got, ok)
				}
				if got, ok := impl.WriteMemory(m, at, s); !sameMemory(got, m) || ok {
					t.Errorf("writing to the invalid memory %d: got %v", i, ok)
				}
			}
		}
		checkPure(t, impl.WriteMemory, m, 0, "a")
	}
}

func TestNothingElseChanges(t *testing.T) {
	r := newRandom(16)
	for range 300 {
		m := memory(5)
		n := int(r.UintN(300))
		at := int(r.UintN(uint(640 - n)))
		s := randomText(r, n)
		changed, ok := impl.WriteMemory(m, at, s)
		if got := bytesOf(changed); !ok || got[:at] != bytesOf(m)[:at] || got[at:at+n] != s || got[at+n:] != bytesOf(m)[at+n:] {
			t.Fatalf("writing %d bytes at %d changes others", n, at)
		}
		var pages []int
		for k := range 5 {
			if changed.Pages[k] != m.Pages[k] {
				pages = append(pages, k)
			}
		}
		if got := impl.ChangedPages(m, changed); !slices.Equal(got, pages) {
			t.Fatalf("the changed pages are %v, not %v", got, pages)
		}
	}
	checkPure(t, impl.WriteMemory, memory(3), 100, text(60))
	checkPure(t, impl.WriteMemory, memory(3), 384, "")
	checkPure(t, impl.WriteMemory, memory(3), 385, "")
	checkPure(t, impl.WriteMemory, impl.Memory{}, 0, "")
	checkPure(t, impl.ReadMemory, memory(3), 100, 60)
}

func TestChangedPages(t *testing.T) {
	m := memory(4)
	other := memory(4)
	other.Pages[0], other.Pages[3] = text(128)[1:]+"x", "short"
	cases := []struct {
		a, b impl.Memory
		want []int
	}{
		{m, m, nil}, {impl.Memory{}, impl.Memory{}, nil}, {m, impl.Memory{}, nil}, {m, memory(2), nil},
		{impl.Memory{}, m, []int{0, 1, 2, 3}}, {memory(2), m, []int{2, 3}}, {m, other, []int{0, 3}}, {other, m, []int{0, 3}},
		{memory(1), other, []int{0, 1, 2, 3}}, {memory(63), memory(66), []int{63, 64, 65}},
		{impl.Memory{Pages: []string{"a", "b"}}, impl.Memory{Pages: []string{"a", "c", ""}}, []int{1, 2}},
	}
	for _, c := range cases {
		if got := impl.ChangedPages(c.a, c.b); !slices.Equal(got, c.want) {
			t.Errorf("from %d to %d pages: got %v, want %v", len(c.a.Pages), len(c.b.Pages), got, c.want)
		}
	}
	checkPure(t, impl.ChangedPages, m, other)
}
