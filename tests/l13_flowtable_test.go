package tests

import (
	"math"
	"slices"
	"testing"

	"loop.example/g03312/impl"
)

// homed is one of several flows with the same home.
func homed(home int, k int) impl.Flow {
	return impl.Flow{Kind: impl.KindTcp, SrcIp: home + 2, DstPort: 8 * k}
}

func sameTable(a impl.FlowTable, b impl.FlowTable) bool { return slices.Equal(a.Slots, b.Slots) }

// used is a used slot.
func used(f impl.Flow, queue int) impl.Slot {
	return impl.Slot{State: impl.SlotUsed, Flow: f, Queue: queue}
}

// tableWith is a table with some slots at their indices, and empty ones elsewhere.
func tableWith(slots map[int]impl.Slot) impl.FlowTable {
	t := impl.FlowTable{Slots: make([]impl.Slot, 8)}
	for at, s := range slots {
		t.Slots[at] = s
	}
	return t
}

func TestHomeSlot(t *testing.T) {
	if impl.TableSlots != 8 || impl.SlotEmpty != 0 || impl.SlotUsed != 1 || impl.SlotDeleted != 2 {
		t.Error("other constants")
	}
	modulo := func(n int) int { return (n%8 + 8) % 8 }
	numbers := append([]int{-17, -9, -8, -7, -1, 0, 1, 5, 7, 8, 9, 4095, most32, math.MaxInt / 2}, far...)
	for i, n := range numbers {
		for j, m := range numbers {
			f := impl.Flow{Kind: n, SrcIp: m, DstIp: numbers[(i+j)%len(numbers)], SrcPort: numbers[(i+2*j)%len(numbers)], DstPort: numbers[(2*i+j)%len(numbers)]}
			want := (modulo(f.Kind) + modulo(f.SrcIp) + modulo(f.DstIp) + modulo(f.SrcPort) + modulo(f.DstPort)) % 8
			if got := impl.HomeSlot(f); got != want {
				t.Errorf("the home of %+v is %d, not %d", f, got, want)
			}
		}
	}
	for n := -20; n < 20; n++ {
		for _, f := range []impl.Flow{{Kind: n}, {SrcIp: n}, {DstIp: n}, {SrcPort: n}, {DstPort: n}} {
			if got := impl.HomeSlot(f); got != modulo(n) {
				t.Errorf("the home of %+v is %d", f, got)
			}
		}
	}
}

func TestTableOk(t *testing.T) {
	a, b, c := homed(0, 0), homed(0, 1), homed(6, 0)
	deleted := impl.Slot{State: impl.SlotDeleted}
	cases := []struct {
		name  string
		table impl.FlowTable
		ok    bool
	}{
		{"an empty table", tableWith(nil), true},
		{"the zero table", impl.FlowTable{}, false},
		{"seven slots", impl.FlowTable{Slots: make([]impl.Slot, 7)}, false},
		{"nine slots", impl.FlowTable{Slots: make([]impl.Slot, 9)}, false},
		{"a flow at home", tableWith(map[int]impl.Slot{0: used(a, 3)}), true},
		{"two flows with one home", tableWith(map[int]impl.Slot{0: used(a, 3), 1: used(b, 0)}), true},
		{"the second one first", tableWith(map[int]impl.Slot{0: used(b, 3), 1: used(a, 0)}), true},
		{"a flow twice", tableWith(map[int]impl.Slot{0: used(a, 1), 1: used(a, 1)}), false},
		{"a flow twice with another between", tableWith(map[int]impl.Slot{0: used(a, 1), 1: used(b, 1), 2: used(a, 2)}), false},
		{"a flow behind an empty slot", tableWith(map[int]impl.Slot{1: used(a, 1)}), false},
		{"a flow before its home", tableWith(map[int]impl.Slot{7: used(a, 1)}), false},
		{"a flow behind a deleted slot", tableWith(map[int]impl.Slot{0: deleted, 1: used(a, 1)}), true},
		{"a flow behind a deleted slot and an empty one", tableWith(map[int]impl.Slot{0: deleted, 2: used(a, 1)}), false},
		{"a way over the end", tableWith(map[int]impl.Slot{6: used(c, 0), 7: deleted, 0: used(homed(6, 1), 0)}), true},
		{"a hole in a way over the end", tableWith(map[int]impl.Slot{6: used(c, 0), 0: used(homed(6, 1), 0)}), false},
		{"deleted slots", tableWith(map[int]impl.Slot{0: deleted, 3: deleted, 7: deleted}), true},
		{"an empty slot with a flow", tableWith(map[int]impl.Slot{2: {Flow: a}}), false},
		{"an empty slot with a queue", tableWith(map[int]impl.Slot{2: {Queue: 1}}), false},
		{"a deleted slot with a flow", tableWith(map[int]impl.Slot{2: {State: impl.SlotDeleted, Flow: b}}), false},
		{"a deleted slot with a queue", tableWith(map[int]impl.Slot{2: {State: impl.SlotDeleted, Queue: 3}}), false},
		{"the zero flow", tableWith(map[int]impl.Slot{0: used(impl.Flow{}, 2)}), true},
		{"any numbers in a flow", tableWith(map[int]impl.Slot{7: used(impl.Flow{Kind: -1}, 2)}), true},
	}
	for _, x := range cases {
		if got := impl.TableOk(x.table); got != x.ok {
			t.Errorf("%s: got %v", x.name, got)
		}
	}
	fields := []field[impl.FlowTable]{
		{"State", 0, 2, func(x *impl.FlowTable, n int) { *x = tableWith(map[int]impl.Slot{5: {State: n}}); fillUsed(x, 5) }},
		{"Queue", 0, 3, func(x *impl.FlowTable, n int) { *x = tableWith(map[int]impl.Slot{0: used(a, n)}) }},
	}
	checkFields(t, tableWith(nil), fields, impl.TableOk)
}

// fillUsed gives a used slot a flow that belongs there.
func fillUsed(x *impl.FlowTable, at int) {
	if x.Slots[at].State == impl.SlotUsed {
		x.Slots[at].Flow = homed(at, 0)
	}
}

// wayOf are the indices of the slots on the way of a flow.
func wayOf(f impl.Flow) []int {
	var way []int
	for k := range 8 {
		way = append(way, (impl.HomeSlot(f)+k)%8)
	}
	return way
}

// tableFine is TableOk, condition by condition.
func tableFine(t impl.FlowTable) bool {
	if len(t.Slots) != 8 {
		return false
	}
	for i, s := range t.Slots {
		if s.State < 0 || s.State > 2 || s.Queue < 0 || s.Queue > 3 {
			return false
		}
		if s.State != impl.SlotUsed {
			if s.Flow != (impl.Flow{}) || s.Queue != 0 {
				return false
			}
			continue
		}
		for j, other := range t.Slots {
			if i != j && other.State == impl.SlotUsed && other.Flow == s.Flow {
				return false
			}
		}
		for _, k := range wayOf(s.Flow) {
			if k == i {
				break
			}
			if t.Slots[k].State == impl.SlotEmpty {
				return false
			}
		}
	}
	return true
}

func TestTableOkOfManyTables(t *testing.T) {
	r := newRandom(31)
	valid := 0
	for range 60000 {
		table := impl.FlowTable{Slots: make([]impl.Slot, 8)}
		for i := range table.Slots {
			switch r.UintN(8) {
			case 0, 1:
				table.Slots[i] = used(homed((i+7*int(r.UintN(2)))%8, int(r.UintN(2))), int(r.UintN(4)))
			case 2, 3:
				table.Slots[i].State = impl.SlotDeleted
			}
		}
		want := tableFine(table)
		if want {
			valid++
		}
		if got := impl.TableOk(table); got != want {
			t.Fatalf("TableOk of %+v is %v", table, got)
		}
		if !want && (impl.FindFlow(table, homed(0, 0)) != -1 || impl.TableFlows(table) != nil || impl.Compacted(table).Slots != nil) {
			t.Fatalf("the table %+v is used although it is not valid", table)
		}
	}
	if valid < 5000 || valid > 55000 {
		t.Errorf("%d tables of 60000 are valid", valid)
	}
}

// pair is a flow with its queue.
type pair struct {
	flow  impl.Flow
	queue int
}

// checkLikePairs checks that a table holds exactly the pairs.
func checkLikePairs(t *testing.T, table impl.FlowTable, pairs []pair, flows []impl.Flow) {
	t.Helper()
	if !impl.TableOk(table) || len(impl.TableFlows(table)) != len(pairs) {
		t.Fatalf("%+v does not hold %+v", table, pairs)
	}
	for _, f := range flows {
		at := slices.IndexFunc(pairs, func(p pair) bool { return p.flow == f })
		found := impl.FindFlow(table, f)
		if (at < 0) != (found < 0) || found < -1 || found > 7 {
			t.Fatalf("%+v is found at %d, but it is pair %d", f, found, at)
		}
		if at < 0 {
			continue
		}
		if s := table.Slots[found]; s != used(f, pairs[at].queue) {
			t.Fatalf("%+v is found as %+v", pairs[at], s)
		}
		if !slices.Contains(impl.TableFlows(table), f) {
			t.Fatalf("%+v is not among the flows", f)
		}
	}
}

func TestTheTableBehavesLikePairs(t *testing.T) {
	var flows []impl.Flow
	for k := range 4 {
		flows = append(flows, homed(0, k), homed(6, k), homed(7, k))
	}
	flows = append(flows, impl.Flow{}, impl.Flow{SrcPort: -1}, impl.Flow{Kind: math.MinInt, DstIp: math.MaxInt})
	full, refused := 0, 0
	for seed := range uint64(60) {
		r := newRandom(seed)
		table := impl.NewTable()
		var pairs []pair
		for range 80 {
			f := flows[r.IntN(len(flows))]
			at := slices.IndexFunc(pairs, func(p pair) bool { return p.flow == f })
			switch r.UintN(8) {
			case 0, 1, 2, 3:
				queue := int(r.UintN(4))
				want := putModel(table, f, queue)
				got, ok := impl.PutFlow(table, f, queue)
				if ok != (at >= 0 || len(pairs) < 8) || !sameTable(got, want) {
					t.Fatalf("PutFlow of %+v into %+v returns %+v, %v", f, table, got, ok)
				}
				table = got
				if at >= 0 {
					pairs[at].queue = queue
				} else if ok {
					pairs = append(pairs, pair{f, queue})
				} else {
					refused++
				}
			case 4, 5, 6:
				if len(pairs) == 8 {
					full++
				}
				want := dropModel(table, f)
				got, ok := impl.DropFlow(table, f)
				if ok != (at >= 0) || !sameTable(got, want) {
					t.Fatalf("DropFlow of %+v from %+v returns %+v, %v", f, table, got, ok)
				}
				table = got
				if ok {
					pairs = slices.Delete(pairs, at, at+1)
				}
			default:
				checkCompacted(t, table)
				if r.UintN(3) == 0 {
					table = impl.Compacted(table)
				}
			}
			checkLikePairs(t, table, pairs, flows)
		}
	}
	if full == 0 || refused == 0 {
		t.Errorf("the table was full %d times, and %d flows were refused", full, refused)
	}
}

// putModel is PutFlow for a valid table, as the document says it.
func putModel(table impl.FlowTable, f impl.Flow, queue int) impl.FlowTable {
	slots := slices.Clone(table.Slots)
	at := slices.IndexFunc(slots, func(s impl.Slot) bool { return s.State == impl.SlotUsed && s.Flow == f })
	for _, k := range wayOf(f) {
		if at < 0 && slots[k].State != impl.SlotUsed {
			at = k
		}
	}
	if at >= 0 {
		slots[at] = used(f, queue)
	}
	return impl.FlowTable{Slots: slots}
}

// dropModel is DropFlow for a valid table.
func dropModel(table impl.FlowTable, f impl.Flow) impl.FlowTable {
	slots := slices.Clone(table.Slots)
	for i, s := range slots {
		if s.State == impl.SlotUsed && s.Flow == f {
			slots[i] = impl.Slot{State: impl.SlotDeleted}
		}
	}
	return impl.FlowTable{Slots: slots}
}

// checkCompacted checks TableFlows and Compacted of a valid table.
func checkCompacted(t *testing.T, table impl.FlowTable) {
	t.Helper()
	want := impl.NewTable()
	var flows []impl.Flow
	for _, s := range table.Slots {
		if s.State == impl.SlotUsed {
			want = putModel(want, s.Flow, s.Queue)
			flows = append(flows, s.Flow)
		}
	}
	if got := impl.Compacted(table); !sameTable(got, want) || !impl.TableOk(got) {
		t.Fatalf("%+v is compacted to %+v, not to %+v", table, got, want)
	}
	if got := impl.TableFlows(table); !slices.Equal(got, flows) {
		t.Fatalf("the flows of %+v are %+v", table, got)
	}
}

func TestPutFlowPlaces(t *testing.T) {
	a, b := homed(7, 0), homed(7, 1)
	deleted := impl.Slot{State: impl.SlotDeleted}
	// A flow that has a slot keeps it, although a deleted one comes first on its way.
	late := tableWith(map[int]impl.Slot{7: deleted, 0: used(a, 1)})
	if got, ok := impl.PutFlow(late, a, 2); !ok || !sameTable(got, tableWith(map[int]impl.Slot{7: deleted, 0: used(a, 2)})) {
		t.Errorf("a known flow behind a deleted slot: got %+v, %v", got, ok)
	}
	if got, ok := impl.PutFlow(late, b, 3); !ok || !sameTable(got, tableWith(map[int]impl.Slot{7: used(b, 3), 0: used(a, 1)})) {
		t.Errorf("a new flow takes a deleted slot: got %+v, %v", got, ok)
	}
	if got, ok := impl.PutFlow(impl.NewTable(), b, 0); !ok || !sameTable(got, tableWith(map[int]impl.Slot{7: used(b, 0)})) {
		t.Errorf("a new flow at home: got %+v, %v", got, ok)
	}
	if got := impl.FindFlow(tableWith(map[int]impl.Slot{7: deleted}), b); got != -1 {
		t.Errorf("a flow is found at %d", got)
	}
	// In a table without empty slots the way of a flow that is not there comes to its end.
	full := impl.NewTable()
	for k := range 8 {
		full, _ = impl.PutFlow(full, homed(3, k), k%4)
	}
	if _, ok := impl.PutFlow(full, homed(3, 8), 0); ok || impl.FindFlow(full, homed(3, 8)) != -1 {
		t.Error("a ninth flow has a slot")
	}
	for k := range 8 {
		if got := impl.FindFlow(full, homed(3, k)); got != (3+k)%8 {
			t.Errorf("flow %d is at %d", k, got)
		}
		if got, ok := impl.PutFlow(full, homed(3, k), 3); !ok || got.Slots[(3+k)%8].Queue != 3 {
			t.Errorf("flow %d of a full table does not get a queue", k)
		}
	}
}

func TestFlowTableRefuses(t *testing.T) {
	a := homed(2, 0)
	table, _ := impl.PutFlow(impl.NewTable(), a, 1)
	for _, queue := range append([]int{-1, 4, 5}, far...) {
		for _, f := range []impl.Flow{a, homed(5, 0)} {
			if got, ok := impl.PutFlow(table, f, queue); ok || !sameTable(got, table) {
				t.Errorf("the queue %d: got %+v, %v", queue, got, ok)
			}
		}
	}
	if got, ok := impl.DropFlow(table, homed(2, 1)); ok || !sameTable(got, table) {
		t.Errorf("an unknown flow is dropped: %+v, %v", got, ok)
	}
	invalid := []impl.FlowTable{{}, {Slots: table.Slots[:7]}, tableWith(map[int]impl.Slot{2: used(a, 4)}), tableWith(map[int]impl.Slot{2: used(a, 1), 3: used(a, 1)}), tableWith(map[int]impl.Slot{2: used(a, 1), 4: {State: 3}})}
	for _, x := range invalid {
		if got, ok := impl.PutFlow(x, a, 1); ok || !sameTable(got, x) {
			t.Errorf("PutFlow into %+v: got %+v, %v", x, got, ok)
		}
		if got, ok := impl.DropFlow(x, a); ok || !sameTable(got, x) {
			t.Errorf("DropFlow from %+v: got %+v, %v", x, got, ok)
		}
		if impl.FindFlow(x, a) != -1 || impl.TableFlows(x) != nil || impl.Compacted(x).Slots != nil {
			t.Errorf("%+v is used", x)
		}
		checkPure(t, impl.PutFlow, x, a, 1)
		checkPure(t, impl.DropFlow, x, a)
	}
	if got := impl.NewTable(); !sameTable(got, tableWith(nil)) || len(impl.TableFlows(got)) != 0 {
		t.Errorf("NewTable: got %+v", got)
	}
}

func TestFlowTableLeavesArgumentsAlone(t *testing.T) {
	a, b := homed(2, 0), homed(2, 1)
	table, _ := impl.PutFlow(impl.NewTable(), a, 1)
	for _, f := range []impl.Flow{a, b} {
		checkPure(t, impl.PutFlow, table, f, 2)
		checkPure(t, impl.PutFlow, table, f, 4)
		checkPure(t, impl.DropFlow, table, f)
		checkPure(t, impl.FindFlow, table, f)
	}
	checkPure(t, impl.TableFlows, table)
	checkPure(t, impl.Compacted, table)
	checkPure(t, impl.TableOk, table)
	first, second := impl.NewTable(), impl.NewTable()
	clear(first.Slots)
	first.Slots[0].State = 9
	if !sameTable(second, tableWith(nil)) {
		t.Error("two new tables share memory")
	}
}
