package tests

import (
	"slices"
	"testing"

	"loop.example/g03312/impl"
)

// fair is a valid scheduler with three queues, of which the one whose turn it is was served.
func fair() impl.Fair {
	return impl.Fair{Queues: [][]int{{60, 5}, {}, {2000, 1, 30}}, Deficits: []int{7, 9, 100}, Quantum: 50, Turn: 1}
}

// badFairs are schedulers that are not valid.
func badFairs() []impl.Fair {
	changes := []func(*impl.Fair){
		func(f *impl.Fair) { f.Queues, f.Deficits = nil, nil }, func(f *impl.Fair) { f.Deficits = f.Deficits[:2] }, func(f *impl.Fair) { f.Deficits = append(f.Deficits, 0) },
		func(f *impl.Fair) { f.Queues, f.Deficits = make([][]int, 9), make([]int, 9) }, func(f *impl.Fair) { f.Quantum = 0 }, func(f *impl.Fair) { f.Quantum = 2001 },
		func(f *impl.Fair) { f.Turn = -1 }, func(f *impl.Fair) { f.Turn = 3 }, func(f *impl.Fair) { f.Fresh = true }, func(f *impl.Fair) { f.Turn = 0 },
		func(f *impl.Fair) { f.Queues[0][1] = 0 }, func(f *impl.Fair) { f.Queues[2][0] = 2001 }, func(f *impl.Fair) { f.Queues[0] = slices.Repeat([]int{1}, 65) },
		func(f *impl.Fair) { f.Deficits[0] = -1 }, func(f *impl.Fair) { f.Deficits[2] = 2051 }, func(f *impl.Fair) { f.Deficits[1] = -1 }, func(f *impl.Fair) { f.Deficits[1] = 2051 },
	}
	list := []impl.Fair{{}}
	for _, change := range changes {
		f := fair()
		change(&f)
		list = append(list, f)
	}
	return list
}

func TestFairOk(t *testing.T) {
	if impl.MaxFairQueues != 8 || impl.MaxLength != 2000 {
		t.Error("other constants", impl.MaxFairQueues, impl.MaxLength)
	}
	fields := []field[impl.Fair]{
		{"Quantum", 1, 2000, func(f *impl.Fair, n int) { f.Quantum = n }},
		{"the first of Deficits", 0, 2050, func(f *impl.Fair, n int) { f.Deficits = []int{n, 9, 100} }},
		{"the second of Deficits", 0, 2050, func(f *impl.Fair, n int) { f.Deficits = []int{7, n, 100} }},
		{"the last of Deficits", 0, 2050, func(f *impl.Fair, n int) { f.Deficits = []int{7, 9, n} }},
		{"the length of a frame", 1, 2000, func(f *impl.Fair, n int) { f.Queues = [][]int{{60, n}, nil, {5}} }},
		{"the length of the last frame", 1, 2000, func(f *impl.Fair, n int) { f.Queues = [][]int{{60}, nil, {5, n}} }},
	}
	checkFields(t, fair(), fields, impl.FairOk)
	empty := impl.Fair{Queues: make([][]int, 2), Deficits: make([]int, 2), Quantum: 2000}
	turns := []field[impl.Fair]{
		{"Turn", 0, 1, func(f *impl.Fair, n int) { f.Turn = n }}, {"the deficit of the queue that is served", 0, 4000, func(f *impl.Fair, n int) { f.Deficits = []int{n, 0} }},
		{"the deficit of an empty queue", 0, 0, func(f *impl.Fair, n int) { f.Deficits = []int{0, n} }},
	}
	checkFields(t, empty, turns, impl.FairOk)
	empty.Fresh = true
	turns[1].high = 0
	checkFields(t, empty, turns, impl.FairOk)
	for n := range 12 {
		f := impl.Fair{Queues: make([][]int, n), Deficits: make([]int, n), Quantum: 1}
		if got := impl.FairOk(f); got != (n >= 1 && n <= 8) {
			t.Errorf("%d queues: got %v", n, got)
		}
	}
	for n := 60; n < 70; n++ {
		f := fair()
		f.Queues[2] = slices.Repeat([]int{3}, n)
		if got := impl.FairOk(f); got != (n <= 64) {
			t.Errorf("%d frames: got %v", n, got)
		}
	}
	for i, f := range badFairs() {
		if impl.FairOk(f) {
			t.Errorf("the invalid scheduler %d is accepted", i)
		}
	}
	checkPure(t, impl.FairOk, fair())
}

func TestNewFair(t *testing.T) {
	for _, queues := range append([]int{-1, 0, 1, 2, 7, 8, 9}, far...) {
		for _, quantum := range append([]int{-1, 0, 1, 2, 1999, 2000, 2001}, far...) {
			var want impl.Fair
			can := queues >= 1 && queues <= 8 && quantum >= 1 && quantum <= 2000
			if can {
				want = impl.Fair{Queues: make([][]int, queues), Deficits: make([]int, queues), Quantum: quantum, Fresh: true}
			}
			if got, ok := impl.NewFair(queues, quantum); !same(got, want) || ok != can {
				t.Errorf("NewFair(%d, %d): got %+v, %v", queues, quantum, got, ok)
			}
		}
	}
}

func TestPutFrame(t *testing.T) {
	for queue := range 3 {
		for _, length := range []int{1, 2, 1999, 2000} {
			want := fair()
			want.Queues[queue] = append(want.Queues[queue], length)
			if got, ok := impl.PutFrame(fair(), queue, length); !same(got, want) || !ok {
				t.Errorf("%d bytes to queue %d: got %+v, %v", length, queue, got, ok)
			}
			checkPure(t, impl.PutFrame, fair(), queue, length)
		}
		for _, length := range append([]int{-1, 0, 2001}, far...) {
			if got, ok := impl.PutFrame(fair(), queue, length); !same(got, fair()) || ok {
				t.Errorf("%d bytes to queue %d: got %+v, %v", length, queue, got, ok)
			}
		}
	}
	for _, queue := range append([]int{-1, 3}, far...) {
		if got, ok := impl.PutFrame(fair(), queue, 5); !same(got, fair()) || ok {
			t.Errorf("to queue %d: got %+v, %v", queue, got, ok)
		}
	}
	f := fair()
	for n := 4; n <= 66; n++ {
		next, ok := impl.PutFrame(f, 2, 7)
		if ok != (n <= 64) || !ok && !same(next, f) {
			t.Errorf("frame %d: got %v", n, ok)
		}
		f = next
	}
	for i, bad := range badFairs() {
		// Also a frame that would make the scheduler valid is refused.
		for queue := range 3 {
			if got, ok := impl.PutFrame(bad, queue, 5); !same(got, bad) || ok {
				t.Errorf("to queue %d of the invalid scheduler %d: got %+v, %v", queue, i, got, ok)
			}
		}
		checkPure(t, impl.PutFrame, bad, 0, 5)
	}
}

// serveModel is ServeFrame as the document says it.
func serveModel(f impl.Fair) (impl.Fair, int, int) {
	total := 0
	for _, lengths := range f.Queues {
		total += len(lengths)
	}
	if !impl.FairOk(f) || total == 0 {
		return f, -1, 0
	}
	f = copyOf(f)
	for {
		k := f.Turn
		empty := len(f.Queues[k]) == 0
		if f.Fresh && !empty {
			f.Deficits[k] += f.Quantum
			f.Fresh = false
		}
		if !empty && f.Queues[k][0] <= f.Deficits[k] {
			length := f.Queues[k][0]
			f.Queues[k] = f.Queues[k][1:]
			f.Deficits[k] -= length
			return f, k, length
		}
		if empty {
			f.Deficits[k] = 0
		}
		f.Turn = (k + 1) % len(f.Queues)
		f.Fresh = true
	}
}

// checkServe compares ServeFrame with its model.
func checkServe(t *testing.T, f impl.Fair) (impl.Fair, int, int) {
	t.Helper()
	want, wantQueue, wantLength := serveModel(f)
	got, queue, length := impl.ServeFrame(f)
	if !same(got, want) || queue != wantQueue || length != wantLength {
		t.Errorf("ServeFrame of %+v: got %+v, %d, %d, want %+v, %d, %d", f, got, queue, length, want, wantQueue, wantLength)
	}
	return got, queue, length
}

func TestServeFrame(t *testing.T) {
	f, queue, length := checkServe(t, fair())
	// The queues 2 and 0 have two turns, until the deficit of queue 0 is no longer too small.
	want := impl.Fair{Queues: [][]int{{5}, {}, {2000, 1, 30}}, Deficits: []int{47, 0, 200}, Quantum: 50}
	if queue != 0 || length != 60 || !same(f, want) {
		t.Errorf("got %+v, %d, %d", f, queue, length)
	}
	var served []int
	for range 10 {
		var next impl.Fair
		next, queue, length = checkServe(t, f)
		if queue == -1 {
			if !same(next, f) || length != 0 {
				t.Errorf("without a frame: got %+v, %d", next, length)
			}
			break
		}
		f = next
		served = append(served, queue, length)
	}
	if !slices.Equal(served, []int{0, 5, 2, 2000, 2, 1, 2, 30}) {
		t.Errorf("got %v", served)
	}
	checkPure(t, impl.ServeFrame, fair())
	// A deficit at its limit is above it after a turn has begun, and the scheduler is not valid then.
	high := impl.Fair{Queues: [][]int{{10, 20}}, Deficits: []int{2050}, Quantum: 50, Fresh: true}
	next, queue, length := checkServe(t, high)
	if queue != 0 || length != 10 || next.Deficits[0] != 2090 || impl.FairOk(next) {
		t.Errorf("a deficit at its limit: got %+v, %d, %d", next, queue, length)
	}
	if again, queues, lengths := impl.ServeAll(high, 5); !same(again, next) || !slices.Equal(queues, []int{0}) || !slices.Equal(lengths, []int{10}) {
		t.Errorf("ServeAll with a deficit at its limit: got %+v, %v, %v", again, queues, lengths)
	}
	for i, bad := range badFairs() {
		if got, queue, length := impl.ServeFrame(bad); !same(got, bad) || queue != -1 || length != 0 {
			t.Errorf("the invalid scheduler %d: got %+v, %d, %d", i, got, queue, length)
		}
		checkPure(t, impl.ServeFrame, bad)
		if got, queues, lengths := impl.ServeAll(bad, 5); !same(got, bad) || queues != nil || lengths != nil {
			t.Errorf("the invalid scheduler %d: got %+v, %v, %v", i, got, queues, lengths)
		}
	}
}

// randomFair is a scheduler with frames.
func randomFair(seed uint64) impl.Fair {
	r := newRandom(seed)
	f, _ := impl.NewFair(1+int(r.UintN(8)), 1+int(r.UintN(300)))
	if seed%5 == 0 {
		f.Quantum = 1 + int(r.UintN(2))
	}
	for range r.UintN(120) {
		f, _ = impl.PutFrame(f, int(r.UintN(uint(len(f.Queues)))), 1+int(r.UintN([]uint{20, 400, 2000}[seed%3])))
	}
	return f
}

func TestServeAll(t *testing.T) {
	for seed := range uint64(60) {
		f := randomFair(seed)
		want, served := f, 0
		var queues, lengths []int
		for _, n := range []int{0, 1, 2, 5, 50, 999, 1000} {
			for served < n {
				next, queue, length := serveModel(want)
				if queue == -1 {
					break
				}
				want, queues, lengths = next, append(queues, queue), append(lengths, length)
				served++
			}
			got, gotQueues, gotLengths := impl.ServeAll(f, n)
			if !same(got, want) || !slices.Equal(gotQueues, queues) || !slices.Equal(gotLengths, lengths) {
				t.Fatalf("seed %d: serving %d of %+v: got %+v, %v, %v", seed, n, f, got, gotQueues, gotLengths)
			}
			if !impl.FairOk(got) {
				t.Errorf("seed %d: %+v is not valid", seed, got)
			}
		}
		for _, n := range append([]int{-1, 1001}, far...) {
			if got, queues, lengths := impl.ServeAll(f, n); !same(got, f) || queues != nil || lengths != nil {
				t.Errorf("serving %d: got %+v, %v, %v", n, got, queues, lengths)
			}
		}
		checkPure(t, impl.ServeAll, f, 9)
	}
}

func TestServedBytes(t *testing.T) {
	queues, lengths := []int{2, 0, 2, 1, 2}, []int{5, 7, 11, 13, 17, 19}
	for n := range 6 {
		for k := range 7 {
			want := map[int]int{}
			for i := range min(n, k) {
				want[queues[i]] += lengths[i]
			}
			for queue := -1; queue < 4; queue++ {
				if got := impl.ServedBytes(queues[:n], lengths[:k], queue); got != want[queue] {
					t.Errorf("queue %d of %v, %v: got %d", queue, queues[:n], lengths[:k], got)
				}
			}
		}
	}
}

func TestQueuesAreServedFairlyAndInOrder(t *testing.T) {
	compared := 0
	for seed := range uint64(120) {
		r := newRandom(seed)
		f := randomFair(seed)
		left := copyOf(f).Queues
		// The queues in which a frame has waited all the time.
		waits := make([]bool, len(left))
		longest, added := 0, 0
		for k, lengths := range left {
			waits[k] = len(lengths) > 0
			longest = max(longest, slices.Max(append(lengths, 0)))
		}
		var queues, lengths []int
		for {
			next, queue, length := impl.ServeFrame(f)
			if queue == -1 {
				break
			}
			// In order: the frame is the first one that waits in its queue.
			if left[queue][0] != length {
				t.Fatalf("seed %d: queue %d is served with %d bytes instead of %v", seed, queue, length, left[queue])
			}
			f, left[queue] = next, left[queue][1:]
			queues, lengths = append(queues, queue), append(lengths, length)
			waits[queue] = waits[queue] && len(left[queue]) > 0
			for i := range left {
				for j := range left {
					apart := impl.ServedBytes(queues, lengths, i) - impl.ServedBytes(queues, lengths, j)
					if waits[i] && waits[j] && i != j {
						compared++
						if apart > f.Quantum+longest {
							t.Fatalf("seed %d: the queues %d and %d are %d bytes apart with the quantum %d", seed, i, j, apart, f.Quantum)
						}
					}
				}
			}
			k, more := int(r.UintN(uint(len(left)))), 1+int(r.UintN(uint(longest)))
			if next, ok := impl.PutFrame(f, k, more); ok && added < 60 && r.UintN(3) == 0 {
				f, left[k], added = next, append(left[k], more), added+1
			}
		}
		for k, rest := range left {
			if len(rest) > 0 {
				t.Errorf("seed %d: queue %d still has %v", seed, k, rest)
			}
		}
	}
	if compared < 10000 {
		t.Errorf("queues were compared only %d times", compared)
	}
}
