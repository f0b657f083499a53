package tests

import (
	"slices"
	"strings"
	"testing"

	"loop.example/g03312/impl"
)

// entry is an entry of sixteen bytes that begins with a number.
func entry(k int) string { return bytes16(k) + text(50 + k%100)[k%100:][:14] }

// entries are as many different entries.
func entries(n int) []string {
	var list []string
	for k := range n {
		list = append(list, entry(k))
	}
	return list
}

func TestRingOk(t *testing.T) {
	r := impl.Ring{Base: 100, Size: 4, Head: 3, Tail: 3}
	base := []field[impl.Ring]{{"Base", 0, 1023 * 128, func(r *impl.Ring, n int) { r.Base = n }}}
	checkFields(t, r, base, impl.RingOk)
	sizes := []int{2, 4, 8, 16}
	for _, size := range append([]int{-16, -2, -1, 0, 1, 2, 3, 4, 5, 6, 7, 8, 9, 12, 15, 16, 17, 24, 32, 64}, far...) {
		for head := -2; head <= 34; head++ {
			for tail := -2; tail <= 34; tail++ {
				r := impl.Ring{Base: 16, Size: size, Head: head, Tail: tail}
				known := slices.Contains(sizes, size)
				usedSlots, free, ok := 0, 0, false
				if known {
					usedSlots = ((tail-head)%(2*size) + 2*size) % (2 * size)
					ok = head >= 0 && head < 2*size && tail >= 0 && tail < 2*size && usedSlots <= size
				}
				if ok {
					free = size - usedSlots
				}
				if got := impl.RingOk(r); got != ok {
					t.Errorf("%+v: got %v", r, got)
				}
				if got := impl.RingUsed(r); got != usedSlots {
					t.Errorf("%+v uses %d slots", r, got)
				}
				if got := impl.RingFree(r); got != free {
					t.Errorf("%+v has %d free slots", r, got)
				}
			}
		}
	}
	for _, size := range sizes {
		for _, n := range far {
			for _, r := range []impl.Ring{{Size: size, Head: n}, {Size: size, Tail: n}} {
				if impl.RingOk(r) || impl.RingFree(r) != 0 {
					t.Errorf("%+v is accepted", r)
				}
			}
			modulo := 2 * size
			if got, want := impl.RingUsed(impl.Ring{Size: size, Tail: n}), (n%modulo+modulo)%modulo; got != want {
				t.Errorf("with the Tail %d, %d slots of %d are used", n, got, size)
			}
			if got, want := impl.RingUsed(impl.Ring{Size: size, Head: n}), (modulo-(n%modulo+modulo)%modulo)%modulo; got != want {
				t.Errorf("with the Head %d, %d slots of %d are used", n, got, size)
			}
		}
	}
}

func TestSlotAddress(t *testing.T) {
	for _, size := range []int{2, 4, 8, 16} {
		r := impl.Ring{Base: 100, Size: size, Head: 1, Tail: 2}
		for _, count := range []int{0, 1, 2, 3, 4, 7, 8, 15, 16, 17, 31, 32, 33, 1 << 40, 1<<63 - 1} {
			if got := impl.SlotAddress(r, count); got != 100+16*(count%size) {
				t.Errorf("the slot of %d among %d is at %d", count, size, got)
			}
		}
		for _, count := range far {
			if got := impl.SlotAddress(r, count); count < 0 && got != -1 {
				t.Errorf("the slot of %d is at %d", count, got)
			}
		}
		if got := impl.SlotAddress(r, -1); got != -1 {
			t.Errorf("the slot of -1 is at %d", got)
		}
	}
	for _, r := range badRings() {
		if got := impl.SlotAddress(r, 0); got != -1 {
			t.Errorf("the slot of %+v is at %d", r, got)
		}
	}
}

// badRings are rings that are not valid.
func badRings() []impl.Ring {
	return []impl.Ring{{}, {Size: 3}, {Size: 32}, {Base: -1, Size: 4}, {Base: 1023*128 + 1, Size: 4}, {Size: 4, Head: 8, Tail: 8}, {Size: 4, Head: -1}, {Size: 4, Tail: 5}, {Size: 4, Head: 4, Tail: 1}}
}

func TestRingPut(t *testing.T) {
	list, m := mappings(), memory(3)
	for _, size := range []int{2, 4, 8, 16} {
		for head := range 2 * size {
			for n := range size + 1 {
				r := impl.Ring{Base: 384 + 8, Size: size, Head: head, Tail: (head + n) % (2 * size)}
				at := 384 + 8 + 16*((head+n)%size)
				want, next, can := m, r, n < size
				if can {
					// A slot may lie in two pages, which are far apart in memory.
					want, can = writeModel(list, m, 2, at, entry(9), true)
				}
				if can {
					next.Tail = (head + n + 1) % (2 * size)
				}
				got, ring, ok := impl.RingPut(list, m, 2, r, entry(9))
				if ok != can || ring != next || !sameMemory(got, want) {
					t.Errorf("RingPut to %+v: got %+v, %v", r, ring, ok)
				}
			}
		}
	}
}

func TestRingPutRefuses(t *testing.T) {
	m := memory(3)
	r := impl.Ring{Base: 384, Size: 4, Head: 7, Tail: 1}
	refuse := func(name string, list []impl.Mapping, m impl.Memory, domain int, r impl.Ring, entry string) {
		t.Helper()
		if got, ring, ok := impl.RingPut(list, m, domain, r, entry); ok || ring != r || !sameMemory(got, m) {
			t.Errorf("%s: RingPut returns %+v, %v", name, ring, ok)
		}
		if got, ring, ok := impl.RingPutAll(list, m, domain, r, []string{entry}); ok || ring != r || !sameMemory(got, m) {
			t.Errorf("%s: RingPutAll returns %+v, %v", name, ring, ok)
		}
		checkPure(t, impl.RingPut, list, m, domain, r, entry)
		checkPure(t, impl.RingPutAll, list, m, domain, r, []string{entry})
	}
	for _, n := range []int{0, 1, 15, 17, 32} {
		refuse("an entry of another length", mappings(), m, 2, r, text(n))
	}
	for _, bad := range badRings() {
		refuse("an invalid ring", mappings(), m, 2, bad, entry(1))
	}
	full := r
	full.Tail = 3
	refuse("a full ring", mappings(), m, 2, full, entry(1))
	readOnly := r
	readOnly.Base = 640
	refuse("a page that is read only", mappings(), m, 2, readOnly, entry(1))
	refuse("another domain", mappings(), m, 3, r, entry(1))
	refuse("no such memory", mappings(), memory(2), 2, r, entry(1))
	for _, list := range invalidMappings() {
		refuse("invalid mappings", list, m, 2, r, entry(1))
	}
	for _, bad := range invalidMemories() {
		refuse("an invalid memory", mappings(), bad, 2, r, entry(1))
	}
}

func TestRingTakeRefuses(t *testing.T) {
	m := memory(3)
	r := impl.Ring{Base: 384, Size: 4, Head: 7, Tail: 1}
	refuse := func(name string, list []impl.Mapping, m impl.Memory, domain int, r impl.Ring) {
		t.Helper()
		if got, ring, ok := impl.RingTake(list, m, domain, r); ok || ring != r || got != "" {
			t.Errorf("%s: RingTake returns %q, %+v, %v", name, got, ring, ok)
		}
	}
	for _, bad := range badRings() {
		refuse("an invalid ring", mappings(), m, 2, bad)
	}
	for k := range 8 {
		refuse("an empty ring", mappings(), m, 2, impl.Ring{Base: 384, Size: 4, Head: k, Tail: k})
	}
	refuse("another domain", mappings(), m, 3, r)
	refuse("no such memory", mappings(), memory(2), 2, r)
	for _, list := range invalidMappings() {
		refuse("invalid mappings", list, m, 2, r)
	}
	for _, bad := range invalidMemories() {
		refuse("an invalid memory", mappings(), bad, 2, r)
	}
	// A ring in memory that is read only can be read.
	readOnly := impl.Ring{Base: 640, Size: 2, Head: 3, Tail: 0}
	if got, ring, ok := impl.RingTake(mappings(), m, 2, readOnly); got != m.Pages[1][16:32] || ring.Head != 0 || !ok {
		t.Errorf("RingTake of read only memory: got %q, %+v, %v", got, ring, ok)
	}
	checkPure(t, impl.RingTake, mappings(), m, 2, r)
}

func TestRingPutAll(t *testing.T) {
	list, m := identity(1, 4), memory(4)
	for _, size := range []int{2, 4, 8, 16} {
		for head := range 2 * size {
			for n := range size + 3 {
				r := impl.Ring{Base: 120, Size: size, Head: head, Tail: (head + 1) % (2 * size)}
				want, next, can := m, r, n < size
				for k := range n {
					if can {
						want, _ = writeModel(list, want, 1, 120+16*((head+1+k)%size), entry(k), true)
						next.Tail = (head + 2 + k) % (2 * size)
					}
				}
				got, ring, ok := impl.RingPutAll(list, m, 1, r, entries(n))
				if ok != can || ring != next || !sameMemory(got, want) {
					t.Errorf("%d entries into %+v: got %+v, %v", n, r, ring, ok)
				}
			}
		}
	}
	r := impl.Ring{Base: 120, Size: 4}
	for at := range 3 {
		list3 := entries(3)
		list3[at] = "short"
		if got, ring, ok := impl.RingPutAll(list, m, 1, r, list3); ok || ring != r || !sameMemory(got, m) {
			t.Errorf("a short entry at %d: got %+v, %v", at, ring, ok)
		}
	}
	// No entries can be put into any ring.
	for _, bad := range append(badRings(), r) {
		if got, ring, ok := impl.RingPutAll(nil, invalidMemories()[0], 1, bad, nil); !ok || ring != bad || !sameMemory(got, invalidMemories()[0]) {
			t.Errorf("no entries into %+v: got %+v, %v", bad, ring, ok)
		}
	}
	checkPure(t, impl.RingPutAll, list, m, 1, r, entries(3))
	checkPure(t, impl.RingPutAll, list, m, 1, r, entries(5))
	checkPure(t, impl.RingPutAll, list, m, 1, r, nil)
}

func TestRingsKeepTheOrder(t *testing.T) {
	full, empty := 0, 0
	for seed := range uint64(40) {
		r := newRandom(seed)
		size := []int{2, 4, 8, 16}[seed%4]
		start := int(r.UintN(uint(2 * size)))
		list, m := identity(0, 5), memory(5)
		ring := impl.Ring{Base: 100, Size: size, Head: start, Tail: start}
		var inside []string
		count := 0
		for range 300 {
			switch r.UintN(5) {
			case 0, 1:
				after, next, ok := impl.RingPut(list, m, 0, ring, entry(count))
				if ok != (len(inside) < size) {
					t.Fatalf("an entry beside %d of %d: %v", len(inside), size, ok)
				}
				if ok {
					inside = append(inside, entry(count))
				} else {
					full++
				}
				m, ring, count = after, next, count+1
			case 2, 3:
				got, next, ok := impl.RingTake(list, m, 0, ring)
				if ok != (len(inside) > 0) || ok && got != inside[0] || !ok && got != "" {
					t.Fatalf("got %q, %v of %q", got, ok, inside)
				}
				if ok {
					inside = inside[1:]
				} else {
					empty++
				}
				ring = next
			default:
				more := entries(int(r.UintN(4)))
				after, next, ok := impl.RingPutAll(list, m, 0, ring, more)
				if ok != (len(inside)+len(more) <= size) {
					t.Fatalf("%d entries beside %d of %d: %v", len(more), len(inside), size, ok)
				}
				if ok {
					inside = append(inside, more...)
				}
				m, ring = after, next
			}
			if !impl.RingOk(ring) || impl.RingUsed(ring) != len(inside) || impl.RingFree(ring) != size-len(inside) {
				t.Fatalf("%+v holds %d entries", ring, len(inside))
			}
		}
		// Only the slots of the ring were written to.
		if end := 100 + 16*size; bytesOf(m)[:100] != bytesOf(memory(5))[:100] || bytesOf(m)[end:] != bytesOf(memory(5))[end:] {
			t.Errorf("seed %d: memory beside the ring was changed", seed)
		}
	}
	if full < 100 || empty < 100 {
		t.Errorf("the rings were full %d times and empty %d times", full, empty)
	}
}

func TestAFullRingIsNotAnEmptyOne(t *testing.T) {
	list, m := identity(0, 1), impl.NewMemory(1)
	ring := impl.Ring{Size: 2, Head: 1, Tail: 1}
	for k := range 2 {
		m, ring, _ = impl.RingPut(list, m, 0, ring, entry(k))
	}
	if ring.Tail != 3 || impl.RingUsed(ring) != 2 || impl.RingFree(ring) != 0 || m.Pages[0] != entry(1)+entry(0)+strings.Repeat("\x00", 96) {
		t.Errorf("two entries of two: got %+v", ring)
	}
}
