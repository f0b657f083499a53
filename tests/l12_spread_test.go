package tests

import (
	"slices"
	"testing"

	"loop.example/g03312/impl"
)

// spread is a valid spread over four queues.
func spread() impl.Spread { return impl.Spread{Key: rssKey, Table: []int{3, 1, 0, 2, 2, 0, 1, 3}} }

func sameSpread(a impl.Spread, b impl.Spread) bool {
	return a.Key == b.Key && slices.Equal(a.Table, b.Table)
}

// manyFlows are different flows.
func manyFlows(n int) []impl.Flow {
	var flows []impl.Flow
	for seed := range uint64(n) {
		r := newRandom(seed)
		flows = append(flows, impl.Flow{Kind: impl.KindUdp, SrcIp: int(r.Uint32()), DstIp: int(r.Uint32()), SrcPort: int(seed), DstPort: int(r.UintN(65536))})
	}
	return flows
}

func TestSpreadOk(t *testing.T) {
	if impl.MaxQueues != 4 {
		t.Error("another constant", impl.MaxQueues)
	}
	for _, queues := range append([]int{-4, -1, 0, 1, 2, 3, 4, 5, 6}, far...) {
		zero := impl.Spread{Key: rssKey, Table: []int{0}}
		if got := impl.SpreadOk(zero, queues); got != (queues >= 1 && queues <= 4) {
			t.Errorf("%d queues: got %v", queues, got)
		}
		for most := -1; most <= 5; most++ {
			s := impl.Spread{Key: rssKey, Table: []int{0, 0, 0, most}}
			if got := impl.SpreadOk(s, queues); got != (queues >= 1 && queues <= 4 && most >= 0 && most < queues) {
				t.Errorf("%d queues and the element %d: got %v", queues, most, got)
			}
		}
	}
	for n := range 70 {
		sizes := []int{1, 2, 4, 8, 16}
		if got := impl.SpreadOk(impl.Spread{Key: rssKey, Table: make([]int, n)}, 1); got != slices.Contains(sizes, n) {
			t.Errorf("a table of %d elements: got %v", n, got)
		}
		if got := impl.SpreadOk(impl.Spread{Key: text(n), Table: []int{0}}, 1); got != (n == 16) {
			t.Errorf("a key of %d bytes: got %v", n, got)
		}
	}
	for _, n := range far {
		if impl.SpreadOk(impl.Spread{Key: rssKey, Table: []int{0, n}}, 4) || impl.SpreadOk(impl.Spread{Key: rssKey, Table: []int{n, 0}}, 4) {
			t.Errorf("the element %d is accepted", n)
		}
	}
	if impl.SpreadOk(impl.Spread{}, 1) || impl.SpreadOk(impl.Spread{Key: rssKey}, 1) {
		t.Error("a spread without a table is accepted")
	}
}

func TestEntryOf(t *testing.T) {
	for _, f := range manyFlows(40) {
		for n := range 20 {
			// The table need not be valid to have an entry for a flow.
			s := impl.Spread{Key: rssKey, Table: slices.Repeat([]int{-7}, n)}
			want := -1
			if n > 0 {
				want = hashOf(rssKey, impl.HashInput(f)) % n
			}
			if got := impl.EntryOf(s, f); got != want {
				t.Errorf("the entry of %+v among %d: got %d, want %d", f, n, got, want)
			}
			for _, key := range []string{"", text(15), text(17)} {
				if got := impl.EntryOf(impl.Spread{Key: key, Table: s.Table}, f); got != -1 {
					t.Errorf("the entry with a key of %d bytes is %d", len(key), got)
				}
			}
		}
	}
}

func TestSpreadQueue(t *testing.T) {
	s := spread()
	seen := map[int]bool{}
	for _, f := range append(manyFlows(60), impl.Flow{}, impl.Flow{SrcIp: -1, DstIp: -1, SrcPort: -1, DstPort: -1}) {
		want := s.Table[hashOf(rssKey, impl.HashInput(f))%8]
		if got := impl.SpreadQueue(s, 4, f); got != want {
			t.Errorf("the queue of %+v: got %d, want %d", f, got, want)
		}
		seen[want] = true
		bad := []impl.Spread{{Key: text(15), Table: s.Table}, {Key: rssKey, Table: s.Table[:7]}, {Key: rssKey}, {}}
		for _, b := range bad {
			if got := impl.SpreadQueue(b, 4, f); got != -1 {
				t.Errorf("the queue of an invalid spread: got %d", got)
			}
		}
		for _, queues := range []int{-1, 0, 1, 3, 5} {
			if got := impl.SpreadQueue(s, queues, f); got != -1 {
				t.Errorf("the queue of %d queues: got %d", queues, got)
			}
		}
	}
	if len(seen) != 4 {
		t.Errorf("only the queues %v were chosen", seen)
	}
}

func TestEvenTable(t *testing.T) {
	for size := -2; size <= 34; size++ {
		for queues := -1; queues <= 6; queues++ {
			var want []int
			if slices.Contains([]int{1, 2, 4, 8, 16}, size) && queues >= 1 && queues <= 4 {
				for k := range size {
					want = append(want, k%queues)
				}
			}
			got := impl.EvenTable(size, queues)
			if !slices.Equal(got, want) {
				t.Errorf("EvenTable(%d, %d): got %v", size, queues, got)
			}
			if want == nil && got != nil {
				t.Errorf("EvenTable(%d, %d) is not nil", size, queues)
			}
			if want != nil && !impl.SpreadOk(impl.Spread{Key: rssKey, Table: got}, queues) {
				t.Errorf("EvenTable(%d, %d) is not valid", size, queues)
			}
		}
	}
	for _, n := range far {
		if impl.EvenTable(n, 2) != nil || impl.EvenTable(4, n) != nil {
			t.Errorf("EvenTable with %d is not nil", n)
		}
	}
}

func TestRetarget(t *testing.T) {
	// The spread itself need not be valid.
	for _, s := range []impl.Spread{spread(), {Key: "k", Table: []int{9, -9, 5}}, {}, {Table: []int{1}}} {
		for _, entry := range append([]int{-1, 0, 1, 2, 3, 7, 8, 9}, far...) {
			for _, queue := range append([]int{-1, 0, 1, 3, 4, 5}, far...) {
				want, can := impl.Spread{Key: s.Key, Table: slices.Clone(s.Table)}, false
				if entry >= 0 && entry < len(s.Table) && queue >= 0 && queue <= 3 {
					want.Table[entry], can = queue, true
				}
				if got, ok := impl.Retarget(s, entry, queue); ok != can || !sameSpread(got, want) {
					t.Errorf("Retarget of %d to %d: got %+v, %v", entry, queue, got, ok)
				}
			}
		}
	}
	checkPure(t, impl.Retarget, spread(), 2, 3)
	checkPure(t, impl.Retarget, spread(), 8, 3)
	checkPure(t, impl.Retarget, spread(), 2, 4)
}

func TestAChangedEntryMovesExactlyItsFlows(t *testing.T) {
	s := spread()
	moved := 0
	for entry := range s.Table {
		for queue := range 4 {
			changed, ok := impl.Retarget(s, entry, queue)
			if !ok || !impl.SpreadOk(changed, 4) {
				t.Errorf("entry %d cannot get the queue %d", entry, queue)
			}
			for _, f := range manyFlows(50) {
				want := impl.SpreadQueue(s, 4, f)
				if impl.EntryOf(s, f) == entry {
					want = queue
					moved++
				}
				if got := impl.SpreadQueue(changed, 4, f); got != want {
					t.Errorf("entry %d to queue %d: %+v has the queue %d, not %d", entry, queue, f, got, want)
				}
			}
		}
	}
	if moved < 100 {
		t.Errorf("only %d flows were moved", moved)
	}
}

func TestQueueLoads(t *testing.T) {
	flows := manyFlows(100)
	flows = append(flows, flows[0], flows[0], impl.Flow{}, impl.Flow{SrcIp: -1})
	for queues := 1; queues <= 4; queues++ {
		for _, size := range []int{1, 2, 4, 8, 16} {
			s := impl.Spread{Key: rssKey, Table: impl.EvenTable(size, queues)}
			want := make([]int, queues)
			for _, f := range flows {
				want[impl.SpreadQueue(s, queues, f)]++
			}
			if got := impl.QueueLoads(s, queues, flows); !slices.Equal(got, want) {
				t.Errorf("%d queues, %d entries: got %v, want %v", queues, size, got, want)
			}
			if got := impl.QueueLoads(s, queues, nil); !slices.Equal(got, make([]int, queues)) {
				t.Errorf("the loads of no flows are %v", got)
			}
		}
	}
	for _, queues := range []int{-1, 0, 3, 5} {
		if got := impl.QueueLoads(spread(), queues, flows); got != nil {
			t.Errorf("the loads of %d queues are %v", queues, got)
		}
	}
	if got := impl.QueueLoads(impl.Spread{}, 4, flows); got != nil {
		t.Errorf("the loads of the zero spread are %v", got)
	}
	checkPure(t, impl.QueueLoads, spread(), 4, flows)
	checkPure(t, impl.QueueLoads, spread(), 2, flows)
	checkPure(t, impl.SpreadQueue, spread(), 4, flows[0])
	checkPure(t, impl.EntryOf, spread(), flows[0])
	checkPure(t, impl.SpreadOk, spread(), 4)
}
