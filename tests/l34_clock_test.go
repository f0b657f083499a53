package tests

import (
	"math/big"
	"testing"

	"loop.example/g03312/impl"
)

const (
	mostTime   = 1 << 50
	mostOffset = 1 << 40
	unit       = 1048576
)

// clocks are valid clocks, also at the bounds of their fields.
func clocks() []impl.Clock {
	var list []impl.Clock
	for _, time := range []int{0, 1, 1000, mostTime - 1, mostTime} {
		for _, fraction := range []int{0, 1, unit / 2, unit - 1} {
			for _, rate := range []int{0, 1, unit - 1, unit, 3*unit + 7, 64 * unit} {
				for _, debt := range []int{0, 1, 5, 1000, mostOffset} {
					list = append(list, impl.Clock{Time: time, Fraction: fraction, Rate: rate, Debt: debt})
				}
			}
		}
	}
	return list
}

// badClocks are clocks that are not valid.
func badClocks() []impl.Clock {
	list := []impl.Clock{{Time: -1}, {Time: mostTime + 1}, {Fraction: -1}, {Fraction: unit}, {Rate: -1}, {Rate: 64*unit + 1}, {Debt: -1}, {Debt: mostOffset + 1}}
	for _, n := range []int{-1 << 63, 1 << 62, 1<<63 - 1} {
		list = append(list, impl.Clock{Time: n}, impl.Clock{Fraction: n}, impl.Clock{Rate: n}, impl.Clock{Debt: n})
	}
	return list
}

func TestClockOk(t *testing.T) {
	if impl.FractionUnit != unit || impl.MaxStep != 1000000 {
		t.Error("other constants", impl.FractionUnit, impl.MaxStep)
	}
	fields := []field[impl.Clock]{
		{"Time", 0, mostTime, func(k *impl.Clock, n int) { k.Time = n }}, {"Fraction", 0, unit - 1, func(k *impl.Clock, n int) { k.Fraction = n }},
		{"Rate", 0, 64 * unit, func(k *impl.Clock, n int) { k.Rate = n }}, {"Debt", 0, mostOffset, func(k *impl.Clock, n int) { k.Debt = n }},
	}
	for _, k := range clocks() {
		checkFields(t, k, fields, impl.ClockOk)
	}
	for _, k := range badClocks() {
		if impl.ClockOk(k) {
			t.Errorf("%+v is accepted", k)
		}
	}
}

// advanceModel is AdvanceClock as the document says it, with numbers that do not overflow.
func advanceModel(k impl.Clock, ticks int) impl.Clock {
	if !impl.ClockOk(k) || ticks < 0 || ticks > 1000000 {
		return k
	}
	sum := new(big.Int).Mul(big.NewInt(int64(k.Rate)), big.NewInt(int64(ticks)))
	sum.Add(sum, big.NewInt(int64(k.Fraction)))
	whole, rest := new(big.Int).DivMod(sum, big.NewInt(unit), new(big.Int))
	n := int(whole.Int64())
	next := k
	next.Fraction = int(rest.Int64())
	next.Debt = max(k.Debt-n, 0)
	next.Time += n - (k.Debt - next.Debt)
	if !impl.ClockOk(next) {
		return k
	}
	return next
}

func TestAdvanceClock(t *testing.T) {
	for _, k := range clocks() {
		for _, ticks := range append([]int{-1, 0, 1, 2, 3, 1000, 999999, 1000000, 1000001}, far...) {
			if got, want := impl.AdvanceClock(k, ticks), advanceModel(k, ticks); got != want {
				t.Errorf("%+v after %d ticks: got %+v, want %+v", k, ticks, got, want)
			}
		}
	}
	cases := []struct {
		k     impl.Clock
		ticks int
		want  impl.Clock
	}{
		{impl.Clock{Rate: unit / 2}, 3, impl.Clock{Time: 1, Fraction: unit / 2, Rate: unit / 2}},
		{impl.Clock{Time: 5, Fraction: unit - 1, Rate: 1, Debt: 3}, 1, impl.Clock{Time: 5, Rate: 1, Debt: 2}},
		{impl.Clock{Time: 5, Rate: 2 * unit, Debt: 3}, 2, impl.Clock{Time: 6, Rate: 2 * unit}},
		{impl.Clock{Time: mostTime, Rate: unit}, 1, impl.Clock{Time: mostTime, Rate: unit}}, {impl.Clock{Time: mostTime - 1, Rate: unit}, 1, impl.Clock{Time: mostTime, Rate: unit}},
		{impl.Clock{Time: mostTime, Rate: unit, Debt: 4}, 4, impl.Clock{Time: mostTime, Rate: unit}}, {impl.Clock{Time: 9, Fraction: 7}, 1000000, impl.Clock{Time: 9, Fraction: 7}},
	}
	for _, c := range cases {
		if got := impl.AdvanceClock(c.k, c.ticks); got != c.want {
			t.Errorf("%+v after %d ticks: got %+v", c.k, c.ticks, got)
		}
	}
}

// stepModel is StepClock as the document says it.
func stepModel(k impl.Clock, offset int) impl.Clock {
	if !impl.ClockOk(k) || offset < -mostOffset || offset > mostOffset {
		return k
	}
	next := k
	if offset < 0 {
		next.Debt += -offset
	} else {
		next.Debt = max(k.Debt-offset, 0)
		next.Time += offset - (k.Debt - next.Debt)
	}
	if !impl.ClockOk(next) {
		return k
	}
	return next
}

func TestStepClock(t *testing.T) {
	for _, k := range clocks() {
		for _, offset := range append([]int{-mostOffset - 1, -mostOffset, -mostOffset + 1, -1000, -1, 0, 1, 4, 5, 6, 1000, mostOffset - 1, mostOffset, mostOffset + 1}, far...) {
			if got, want := impl.StepClock(k, offset), stepModel(k, offset); got != want {
				t.Errorf("%+v corrected by %d: got %+v, want %+v", k, offset, got, want)
			}
		}
	}
	cases := []struct {
		k      impl.Clock
		offset int
		want   impl.Clock
	}{
		{impl.Clock{Time: 10, Debt: 3}, 2, impl.Clock{Time: 10, Debt: 1}}, {impl.Clock{Time: 10, Debt: 3}, 5, impl.Clock{Time: 12}},
		{impl.Clock{Time: 10, Debt: 3}, -5, impl.Clock{Time: 10, Debt: 8}}, {impl.Clock{Time: 10, Fraction: 8, Rate: 9}, 0, impl.Clock{Time: 10, Fraction: 8, Rate: 9}},
		{impl.Clock{Debt: mostOffset}, -1, impl.Clock{Debt: mostOffset}}, {impl.Clock{Time: mostTime}, 1, impl.Clock{Time: mostTime}},
	}
	for _, c := range cases {
		if got := impl.StepClock(c.k, c.offset); got != c.want {
			t.Errorf("%+v corrected by %d: got %+v", c.k, c.offset, got)
		}
	}
}

func TestTrimClock(t *testing.T) {
	for _, k := range clocks() {
		for _, parts := range append([]int{-1000001, -1000000, -999999, -500000, -3, -1, 0, 1, 3, 500000, 999999, 1000000, 1000001}, far...) {
			want := k
			if parts >= -1000000 && parts <= 1000000 {
				change := new(big.Int).Quo(new(big.Int).Mul(big.NewInt(int64(k.Rate)), big.NewInt(int64(parts))), big.NewInt(1000000))
				want.Rate += int(change.Int64())
			}
			if want.Rate > 64*unit {
				want = k
			}
			if got := impl.TrimClock(k, parts); got != want {
				t.Errorf("%+v changed by %d parts: got %+v, want %+v", k, parts, got, want)
			}
		}
	}
	// The division rounds toward zero, for negative parts too.
	for parts, rate := range map[int]int{1: 999999, -1: 999999, 2: 1000000, -2: 999998, 1000000: 1999998, -1000000: 0} {
		if got := impl.TrimClock(impl.Clock{Rate: 999999}, parts); got.Rate != rate {
			t.Errorf("%d parts: got %+v", parts, got)
		}
	}
}

func TestClocksRefuse(t *testing.T) {
	for _, k := range badClocks() {
		if impl.AdvanceClock(k, 1) != k || impl.AdvanceClock(k, 0) != k || impl.StepClock(k, 1) != k || impl.StepClock(k, -1) != k || impl.TrimClock(k, 1000) != k {
			t.Errorf("the invalid clock %+v is changed", k)
		}
		// Also what would become valid is not changed.
		if impl.TrimClock(k, -1000000) != k || impl.StepClock(k, mostOffset) != k || impl.StepClock(k, -mostOffset) != k || impl.AdvanceClock(k, 1000000) != k {
			t.Errorf("the invalid clock %+v is changed", k)
		}
	}
}

func TestOffsetOf(t *testing.T) {
	times := append([]int{-1, 0, 1, 2, 3, 10, mostTime - 1, mostTime, mostTime + 1}, far...)
	for _, t1 := range times {
		for _, t2 := range times {
			for _, t3 := range times {
				for _, t4 := range times {
					offset, delay := 0, 0
					if min(t1, t2, t3, t4) >= 0 && max(t1, t2, t3, t4) <= mostTime {
						offset, delay = (t2-t1-t4+t3)/2, (t4-t1-t3+t2)/2
					}
					if got := impl.OffsetOf(t1, t2, t3, t4); got != offset {
						t.Fatalf("OffsetOf(%d, %d, %d, %d): got %d", t1, t2, t3, t4, got)
					}
					if got := impl.DelayOf(t1, t2, t3, t4); got != delay {
						t.Fatalf("DelayOf(%d, %d, %d, %d): got %d", t1, t2, t3, t4, got)
					}
				}
			}
		}
	}
	if got := impl.OffsetOf(10, 0, 0, 5); got != -7 {
		t.Errorf("a negative offset is rounded to %d", got)
	}
	if got := impl.DelayOf(10, 0, 0, 5); got != -2 {
		t.Errorf("a negative delay is rounded to %d", got)
	}
}

func TestClocksNeverGoBack(t *testing.T) {
	moved, stood := 0, 0
	for seed := range uint64(200) {
		r := newRandom(seed)
		k := impl.Clock{Time: int(r.UintN(1000)), Fraction: int(r.UintN(unit)), Rate: int(r.UintN(4 * unit))}
		// What the clock would show if it had no debt.
		real := k.Time
		for range 200 {
			before := k
			switch r.UintN(4) {
			case 0:
				k = impl.StepClock(k, int(r.UintN(400))-200)
				real += k.Time - before.Time - (k.Debt - before.Debt)
			case 1:
				k = impl.TrimClock(k, int(r.UintN(2001))-1000)
			default:
				ticks := int(r.UintN(40))
				k = impl.AdvanceClock(k, ticks)
				real += (before.Fraction + before.Rate*ticks) / unit
			}
			if k.Time < before.Time || !impl.ClockOk(k) {
				t.Fatalf("seed %d: %+v goes back to %+v", seed, before, k)
			}
			if k.Time-k.Debt != real {
				t.Fatalf("seed %d: %+v, but it is %d", seed, k, real)
			}
			if k.Time > before.Time {
				moved++
				if k.Debt > 0 {
					t.Fatalf("seed %d: %+v goes on to %+v with a debt", seed, before, k)
				}
			} else {
				stood++
			}
		}
	}
	if moved < 5000 || stood < 5000 {
		t.Errorf("clocks went on %d times and stood still %d times", moved, stood)
	}
}

func TestSymmetricExchangesGiveExactOffsets(t *testing.T) {
	for seed := range uint64(500) {
		r := newRandom(seed)
		t1, delay, stay := int(r.UintN(1<<48)), int(r.UintN(1<<40)), int(r.UintN(1<<40))
		offset := int(r.UintN(1<<41)) - t1%(1<<40)
		t2 := t1 + delay + offset
		t3 := t2 + stay
		t4 := t3 - offset + delay
		if t2 < 0 || t3 < 0 {
			continue
		}
		if got := impl.OffsetOf(t1, t2, t3, t4); got != offset {
			t.Errorf("seed %d: the offset %d is found as %d", seed, offset, got)
		}
		if got := impl.DelayOf(t1, t2, t3, t4); got != delay {
			t.Errorf("seed %d: the delay %d is found as %d", seed, delay, got)
		}
		// A clock that is corrected by the offset agrees with the other one, at once or when its debt is given back.
		k := impl.StepClock(impl.Clock{Time: 1<<45 + offset}, -offset)
		if offset <= 1<<40 && offset >= -1<<40 && k.Time-k.Debt != 1<<45 {
			t.Errorf("seed %d: the corrected clock is %+v", seed, k)
		}
	}
}
