package tests

import (
	"testing"

	"loop.example/g03312/impl"
)

// link is a valid link on which something has happened.
func link() impl.PauseLink {
	return impl.PauseLink{
		Capacity: 100, High: 60, Low: 20, Delay: 3, Fill: 50, Paused: true, Flying: []int{10, 0, 30}, Signals: []bool{false, true, false}, Stopped: true, Lost: 7,
	}
}

// badLinks are links that are not valid.
func badLinks() []impl.PauseLink {
	changes := []func(*impl.PauseLink){
		func(p *impl.PauseLink) { p.Low = -1 }, func(p *impl.PauseLink) { p.Low = 61 }, func(p *impl.PauseLink) { p.High = 101 }, func(p *impl.PauseLink) { p.Capacity = 1001 },
		func(p *impl.PauseLink) { p.Delay = 0 }, func(p *impl.PauseLink) { p.Delay = 2 }, func(p *impl.PauseLink) { p.Delay = 9 },
		func(p *impl.PauseLink) { p.Fill = -1 }, func(p *impl.PauseLink) { p.Fill = 101 }, func(p *impl.PauseLink) { p.Lost = -1 }, func(p *impl.PauseLink) { p.Lost = 1000000000001 },
		func(p *impl.PauseLink) { p.Flying = p.Flying[:2] }, func(p *impl.PauseLink) { p.Flying = append(p.Flying, 0) }, func(p *impl.PauseLink) { p.Flying[1] = -1 },
		func(p *impl.PauseLink) { p.Flying[2] = 1001 }, func(p *impl.PauseLink) { p.Signals = p.Signals[:2] }, func(p *impl.PauseLink) { p.Signals = append(p.Signals, true) },
		func(p *impl.PauseLink) { p.Delay, p.Flying, p.Signals = 0, nil, nil }, func(p *impl.PauseLink) { p.Delay, p.Flying, p.Signals = 9, make([]int, 9), make([]bool, 9) },
	}
	list := []impl.PauseLink{{}}
	for _, change := range changes {
		p := link()
		change(&p)
		list = append(list, p)
	}
	return list
}

func TestPauseOk(t *testing.T) {
	if impl.MaxDelay != 8 || impl.MaxCapacity != 1000 {
		t.Error("other constants", impl.MaxDelay, impl.MaxCapacity)
	}
	fields := []field[impl.PauseLink]{
		{"Capacity", 60, 1000, func(p *impl.PauseLink, n int) { p.Capacity = n }}, {"High", 20, 100, func(p *impl.PauseLink, n int) { p.High = n }},
		{"Low", 0, 60, func(p *impl.PauseLink, n int) { p.Low = n }}, {"Fill", 0, 100, func(p *impl.PauseLink, n int) { p.Fill = n }},
		{"Delay", 3, 3, func(p *impl.PauseLink, n int) { p.Delay = n }}, {"Lost", 0, 1000000000000, func(p *impl.PauseLink, n int) { p.Lost = n }},
		{"the first of Flying", 0, 1000, func(p *impl.PauseLink, n int) { p.Flying = []int{n, 0, 0} }},
		{"the last of Flying", 0, 1000, func(p *impl.PauseLink, n int) { p.Flying = []int{0, 0, n} }},
	}
	checkFields(t, link(), fields, impl.PauseOk)
	for delay := range 12 {
		p := link()
		p.Delay, p.Flying, p.Signals = delay, make([]int, delay), make([]bool, delay)
		if got := impl.PauseOk(p); got != (delay >= 1 && delay <= 8) {
			t.Errorf("the delay %d: got %v", delay, got)
		}
	}
	for i, p := range badLinks() {
		if impl.PauseOk(p) {
			t.Errorf("the invalid link %d is accepted", i)
		}
	}
	checkPure(t, impl.PauseOk, link())
}

func TestNewPauseLink(t *testing.T) {
	numbers := append([]int{-1, 0, 1, 7, 8, 9, 999, 1000, 1001}, far...)
	for _, capacity := range numbers {
		for _, high := range numbers {
			for _, low := range numbers {
				for _, delay := range numbers {
					var want impl.PauseLink
					can := 0 <= low && low <= high && high <= capacity && capacity <= 1000 && delay >= 1 && delay <= 8
					if can {
						want = impl.PauseLink{Capacity: capacity, High: high, Low: low, Delay: delay, Flying: make([]int, delay), Signals: make([]bool, delay)}
					}
					if got, ok := impl.NewPauseLink(capacity, high, low, delay); !same(got, want) || ok != can {
						t.Fatalf("NewPauseLink(%d, %d, %d, %d): got %+v, %v", capacity, high, low, delay, got, ok)
					}
				}
			}
		}
	}
}

// pauseModel is PauseTick as the document says it.
func pauseModel(p impl.PauseLink, offer int, drain int) (impl.PauseLink, int) {
	if !impl.PauseOk(p) || offer < 0 || offer > 1000 || drain < 0 || drain > 1000 {
		return p, 0
	}
	p = copyOf(p)
	sent := 0
	p.Stopped = p.Signals[0]
	if !p.Stopped {
		sent = offer
	}
	if p.Fill+p.Flying[0] <= p.Capacity {
		p.Fill += p.Flying[0]
	} else {
		p.Lost += p.Flying[0]
	}
	p.Fill = max(0, p.Fill-drain)
	switch {
	case p.Fill > p.High:
		p.Paused = true
	case p.Fill <= p.Low:
		p.Paused = false
	}
	p.Flying = append(p.Flying[1:], sent)
	p.Signals = append(p.Signals[1:], p.Paused)
	return p, sent
}

func checkTick(t *testing.T, p impl.PauseLink, offer int, drain int) (impl.PauseLink, int) {
	t.Helper()
	want, wantSent := pauseModel(p, offer, drain)
	got, sent := impl.PauseTick(p, offer, drain)
	if !same(got, want) || sent != wantSent {
		t.Errorf("PauseTick of %+v with %d, %d: got %+v, %d, want %+v, %d", p, offer, drain, got, sent, want, wantSent)
	}
	return got, sent
}

func TestPauseTick(t *testing.T) {
	got, sent := checkTick(t, link(), 25, 5)
	want := impl.PauseLink{
		Capacity: 100, High: 60, Low: 20, Delay: 3, Fill: 55, Paused: true, Flying: []int{0, 30, 25}, Signals: []bool{true, false, true}, Lost: 7,
	}
	if !same(got, want) || sent != 25 {
		t.Errorf("the first tick: got %+v, %d", got, sent)
	}
	got, sent = checkTick(t, got, 40, 0)
	if !got.Stopped || sent != 0 || got.Flying[2] != 0 || got.Fill != 55 {
		t.Errorf("a stopped sender: got %+v, %d", got, sent)
	}
	for fill := range 101 {
		for _, size := range []int{0, 1, 49, 50, 51, 1000} {
			for _, drain := range []int{0, 1, 39, 40, 41, 1000} {
				for k := range 4 {
					p := link()
					p.Fill, p.Flying[0], p.Paused, p.Signals[0] = fill, size, k%2 == 1, k/2 == 1
					checkTick(t, p, size, drain)
				}
			}
		}
	}
	for delay := 1; delay <= 8; delay++ {
		p, _ := impl.NewPauseLink(1000, 1000, 0, delay)
		for k := range 40 {
			p, _ = checkTick(t, p, k, k/2)
		}
	}
	most := link()
	most.Lost, most.Flying[0] = 1000000000000, 1000
	if got, _ := checkTick(t, most, 0, 0); got.Lost != 1000000001000 || impl.PauseOk(got) {
		t.Errorf("very much lost: got %+v", got)
	}
	checkPure(t, impl.PauseTick, link(), 25, 5)
	if got := impl.MaxCapacity; !impl.PauseOk(impl.PauseLink{Capacity: got, Delay: 1, Flying: []int{got}, Signals: []bool{true}}) {
		t.Error("a full link is refused")
	}
}

func TestPauseTickRefuses(t *testing.T) {
	for i, p := range badLinks() {
		if got, sent := impl.PauseTick(p, 1, 1); !same(got, p) || sent != 0 {
			t.Errorf("the invalid link %d: got %+v, %d", i, got, sent)
		}
		checkPure(t, impl.PauseTick, p, 1, 1)
	}
	for _, n := range append([]int{-1, 1001}, far...) {
		if got, sent := impl.PauseTick(link(), n, 1); !same(got, link()) || sent != 0 {
			t.Errorf("the offer %d: got %+v, %d", n, got, sent)
		}
		if got, sent := impl.PauseTick(link(), 1, n); !same(got, link()) || sent != 0 {
			t.Errorf("the drain %d: got %+v, %d", n, got, sent)
		}
	}
	for _, n := range []int{0, 1000} {
		checkTick(t, link(), n, 1000-n)
	}
}

func TestPauseRun(t *testing.T) {
	r := newRandom(31)
	for range 100 {
		var offers, drains []int
		for range r.UintN(40) {
			offers = append(offers, int(r.UintN(60))-2)
		}
		for range r.UintN(40) {
			drains = append(drains, int(r.UintN(50))-2)
		}
		want, total := link(), 0
		for i := range min(len(offers), len(drains)) {
			next, sent := pauseModel(want, offers[i], drains[i])
			want, total = next, total+sent
		}
		if got, sent := impl.PauseRun(link(), offers, drains); !same(got, want) || sent != total {
			t.Errorf("%v, %v: got %+v, %d, want %+v, %d", offers, drains, got, sent, want, total)
		}
		checkPure(t, impl.PauseRun, link(), offers, drains)
	}
	for i, p := range badLinks() {
		if got, sent := impl.PauseRun(p, []int{5}, []int{1}); !same(got, p) || sent != 0 {
			t.Errorf("the invalid link %d: got %+v, %d", i, got, sent)
		}
	}
}

func TestHeadroom(t *testing.T) {
	for _, delay := range append([]int{-1, 0, 1, 2, 7, 8, 9}, far...) {
		for _, rate := range append([]int{-1, 0, 1, 50, 999, 1000, 1001}, far...) {
			want := -1
			if delay >= 1 && delay <= 8 && rate >= 0 && rate <= 1000 {
				want = rate
				for range delay {
					want += 2 * rate
				}
			}
			if got := impl.Headroom(delay, rate); got != want {
				t.Errorf("Headroom(%d, %d): got %d, want %d", delay, rate, got, want)
			}
		}
	}
}

func TestWithTheHeadroomNothingIsLost(t *testing.T) {
	full, lostWithLess := 0, 0
	for seed := range uint64(400) {
		r := newRandom(seed)
		delay, rate := 1+int(seed%8), 1+int(r.UintN(40))
		high := int(r.UintN(200))
		low := int(r.UintN(uint(high + 1)))
		p, ok := impl.NewPauseLink(high+impl.Headroom(delay, rate), high, low, delay)
		if !ok {
			continue
		}
		less, _ := impl.NewPauseLink(high+impl.Headroom(delay, rate)/2, high, low, delay)
		total, drained := 0, 0
		for k := range 300 {
			offer, drain := rate, 0
			if k > 100 {
				offer, drain = int(r.UintN(uint(rate+1))), int(r.UintN(uint(2*rate)))
			}
			before := p.Fill + p.Flying[0]
			next, sent := impl.PauseTick(p, offer, drain)
			total += sent
			drained += before - next.Fill
			if next.Lost != 0 || !impl.PauseOk(next) {
				t.Fatalf("seed %d: %+v has lost something", seed, next)
			}
			if next.Fill > high {
				full++
			}
			flying := 0
			for _, size := range next.Flying {
				flying += size
			}
			if total != drained+next.Fill+flying {
				t.Fatalf("seed %d: of %d bytes, %d were drained, %d are in %+v", seed, total, drained, next.Fill+flying, next)
			}
			p = next
			less, _ = impl.PauseTick(less, offer, drain)
		}
		if less.Lost > 0 {
			lostWithLess++
		}
	}
	if full < 1000 || lostWithLess < 20 {
		t.Errorf("the receiver was above its mark %d times; with less room, %d links have lost something", full, lostWithLess)
	}
}
