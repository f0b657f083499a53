package tests

import (
	"slices"
	"testing"

	"loop.example/g03312/impl"
)

// due tells whether an interrupt of a vector is due.
func due(v impl.Vector) bool {
	return v.Count >= 1 && (v.Count >= v.MaxCount || v.Time >= v.MaxTime)
}

// vectorFine is VectorOk as the document says it.
func vectorFine(v impl.Vector) bool {
	return v.MaxCount >= 1 && v.MaxCount <= 64 && v.MaxTime >= 0 && v.MaxTime <= 64 && v.Count >= 0 && v.Count <= 1000000 &&
		v.Time >= 0 && v.Time <= 1000000 && (v.Count != 0 || v.Time == 0) && v.Raised == (due(v) && !v.Masked)
}

// manyVectors are vectors, valid and not, around all bounds.
func manyVectors() []impl.Vector {
	var list []impl.Vector
	for _, most := range []int{-1, 0, 1, 2, 3, 63, 64, 65} {
		for _, time := range []int{-1, 0, 1, 2, 63, 64, 65} {
			for _, count := range []int{-1, 0, 1, 2, 3, 62, 63, 64, 65, 999999, 1000000, 1000001} {
				for _, ticks := range []int{-1, 0, 1, 2, 3, 62, 63, 64, 65, 999999, 1000000, 1000001} {
					v := impl.Vector{MaxCount: most, MaxTime: time, Count: count, Time: ticks}
					for k := range 4 {
						v.Masked, v.Raised = k%2 == 1, k/2 == 1
						list = append(list, v)
					}
				}
			}
		}
	}
	return list
}

// validVectors are those of manyVectors that are valid.
func validVectors() []impl.Vector {
	return slices.DeleteFunc(manyVectors(), func(v impl.Vector) bool { return !vectorFine(v) })
}

func TestVectorOk(t *testing.T) {
	if impl.MaxModeration != 64 {
		t.Error("another constant", impl.MaxModeration)
	}
	valid := 0
	for _, v := range manyVectors() {
		want := vectorFine(v)
		if got := impl.VectorOk(v); got != want {
			t.Errorf("%+v: got %v", v, got)
		}
		if want {
			valid++
		}
	}
	if valid < 1000 || len(manyVectors()) < 4*valid {
		t.Errorf("%d of %d vectors are valid", valid, len(manyVectors()))
	}
	fields := []field[impl.Vector]{
		{"MaxCount", 1, 64, func(v *impl.Vector, n int) { v.MaxCount = n }}, {"MaxTime", 0, 64, func(v *impl.Vector, n int) { v.MaxTime = n }},
		{"Count", 1, 1000000, func(v *impl.Vector, n int) { v.Count = n }}, {"Time", 0, 1000000, func(v *impl.Vector, n int) { v.Time = n }},
	}
	checkFields(t, impl.Vector{MaxCount: 5, MaxTime: 9, Count: 3, Time: 4, Masked: true}, fields, impl.VectorOk)
	if impl.VectorOk(impl.Vector{}) {
		t.Error("the zero vector is accepted")
	}
}

func TestNewVector(t *testing.T) {
	for _, count := range append([]int{-1, 0, 1, 2, 63, 64, 65}, far...) {
		for _, time := range append([]int{-1, 0, 1, 2, 63, 64, 65}, far...) {
			want, can := impl.Vector{}, count >= 1 && count <= 64 && time >= 0 && time <= 64
			if can {
				want = impl.Vector{MaxCount: count, MaxTime: time}
			}
			if got, ok := impl.NewVector(count, time); got != want || ok != can {
				t.Errorf("NewVector(%d, %d): got %+v, %v", count, time, got, ok)
			}
		}
	}
}

// checkSteps checks what each function does with a valid vector.
func checkSteps(t *testing.T, v impl.Vector) {
	t.Helper()
	event, tick, open, masked := v, v, v, v
	event.Count = min(v.Count+1, 1000000)
	event.Raised = v.Raised || due(event) && !v.Masked
	if v.Count > 0 {
		tick.Time = min(v.Time+1, 1000000)
		tick.Raised = v.Raised || due(tick) && !v.Masked
	}
	open.Masked, open.Raised = false, due(v)
	masked.Masked, masked.Raised = true, false
	if got := impl.AddEvent(v); got != event {
		t.Errorf("AddEvent(%+v): got %+v", v, got)
	}
	if got := impl.TickVector(v); got != tick {
		t.Errorf("TickVector(%+v): got %+v", v, got)
	}
	if got := impl.Unmask(v); got != open {
		t.Errorf("Unmask(%+v): got %+v", v, got)
	}
	if got := impl.MaskVector(v); got != masked {
		t.Errorf("MaskVector(%+v): got %+v", v, got)
	}
	taken := v
	if v.Raised {
		taken = impl.Vector{MaxCount: v.MaxCount, MaxTime: v.MaxTime, Masked: true}
	}
	if got, ok := impl.TakeInterrupt(v); got != taken || ok != v.Raised {
		t.Errorf("TakeInterrupt(%+v): got %+v, %v", v, got, ok)
	}
	for _, x := range []impl.Vector{event, tick, open, masked, taken} {
		if !impl.VectorOk(x) {
			t.Errorf("after %+v, %+v is not valid", v, x)
		}
	}
}

func TestVectorSteps(t *testing.T) {
	for _, v := range validVectors() {
		checkSteps(t, v)
	}
}

func TestVectorsRefuse(t *testing.T) {
	for _, v := range manyVectors() {
		if vectorFine(v) {
			continue
		}
		got, ok := impl.TakeInterrupt(v)
		if impl.AddEvent(v) != v || impl.TickVector(v) != v || impl.Unmask(v) != v || impl.MaskVector(v) != v || got != v || ok || impl.TicksToInterrupt(v) != -1 {
			t.Errorf("the invalid vector %+v is changed", v)
		}
	}
}

func TestTicksToInterrupt(t *testing.T) {
	for _, v := range validVectors() {
		want, x := -1, v
		for n := range 70 {
			if x.Raised {
				want = n
				break
			}
			x = impl.TickVector(x)
		}
		if got := impl.TicksToInterrupt(v); got != want {
			t.Errorf("%+v: got %d, want %d", v, got, want)
		}
	}
	cases := []struct {
		v    impl.Vector
		want int
	}{
		{impl.Vector{MaxCount: 64, MaxTime: 64, Count: 1}, 64}, {impl.Vector{MaxCount: 64, MaxTime: 64, Count: 63, Time: 63}, 1},
		{impl.Vector{MaxCount: 64, MaxTime: 64}, -1}, {impl.Vector{MaxCount: 2, MaxTime: 5, Count: 1, Masked: true}, -1},
		{impl.Vector{MaxCount: 2, MaxTime: 5, Count: 2, Raised: true}, 0}, {impl.Vector{MaxCount: 2, MaxTime: 5, Count: 2, Masked: true}, -1},
	}
	for _, c := range cases {
		if got := impl.TicksToInterrupt(c.v); got != c.want {
			t.Errorf("%+v: got %d", c.v, got)
		}
	}
}

func TestNoEventIsLeftWithoutAnInterrupt(t *testing.T) {
	interrupts := 0
	for seed := range uint64(200) {
		r := newRandom(seed)
		v, _ := impl.NewVector(1+int(r.UintN(6)), int(r.UintN(6)))
		// The events since the last interrupt, and how long the first of them has waited while it was not masked.
		events, waited := 0, 0
		for range 300 {
			switch r.UintN(6) {
			case 0, 1:
				v = impl.AddEvent(v)
				events++
			case 2, 3:
				v = impl.TickVector(v)
				if events > 0 && !v.Masked {
					waited++
				}
			case 4:
				next, ok := impl.TakeInterrupt(v)
				if ok {
					interrupts++
					events, waited = 0, 0
				}
				v = next
			case 5:
				if v.Masked {
					v = impl.Unmask(v)
				} else if r.UintN(4) == 0 {
					v = impl.MaskVector(v)
					waited = 0
				}
			}
			if v.Count != events {
				t.Fatalf("seed %d: %+v after %d events", seed, v, events)
			}
			left := impl.TicksToInterrupt(v)
			if !v.Masked && events > 0 && (left < 0 || waited+left > v.MaxTime && !v.Raised) {
				t.Fatalf("seed %d: %+v has %d events that wait for %d ticks, after %d", seed, v, events, left, waited)
			}
			if !v.Masked && events > 0 && !v.Raised && (waited >= v.MaxTime || events >= v.MaxCount) {
				t.Fatalf("seed %d: the interrupt of %+v is late", seed, v)
			}
			if v.Raised && (events == 0 || v.Masked) {
				t.Fatalf("seed %d: %+v is raised with %d events", seed, v, events)
			}
		}
	}
	if interrupts < 1000 {
		t.Errorf("only %d interrupts", interrupts)
	}
}
