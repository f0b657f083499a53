package tests

import (
	"slices"
	"testing"

	"loop.example/g03312/impl"
)

func bucket() impl.Bucket { return impl.Bucket{Rate: 10, Burst: 50, Tokens: 20} }

// badBuckets are buckets that are not valid.
func badBuckets() []impl.Bucket {
	list := []impl.Bucket{{Rate: -1}, {Rate: 10001}, {Burst: -1}, {Burst: 100001}, {Tokens: -1}, {Tokens: 1}, {Rate: 1, Burst: 5, Tokens: 6}, {Burst: -1, Tokens: -1}}
	for _, n := range far {
		list = append(list, impl.Bucket{Rate: n}, impl.Bucket{Burst: n}, impl.Bucket{Tokens: n}, impl.Bucket{Burst: n, Tokens: n})
	}
	return list
}

func TestBucketOk(t *testing.T) {
	if impl.MaxRate != 10000 || impl.MaxBurst != 100000 {
		t.Error("other constants", impl.MaxRate, impl.MaxBurst)
	}
	fields := []field[impl.Bucket]{
		{"Rate", 0, 10000, func(b *impl.Bucket, n int) { b.Rate = n }}, {"Burst", 20, 100000, func(b *impl.Bucket, n int) { b.Burst = n }},
		{"Tokens", 0, 50, func(b *impl.Bucket, n int) { b.Tokens = n }},
	}
	checkFields(t, bucket(), fields, impl.BucketOk)
	for _, b := range badBuckets() {
		if impl.BucketOk(b) {
			t.Errorf("%+v is accepted", b)
		}
	}
	if !impl.BucketOk(impl.Bucket{}) || !impl.BucketOk(impl.Bucket{Rate: 10000, Burst: 100000, Tokens: 100000}) {
		t.Error("a valid bucket is refused")
	}
}

func TestRefillBucket(t *testing.T) {
	for _, start := range []impl.Bucket{bucket(), {}, {Rate: 7, Burst: 50}, {Burst: 9, Tokens: 3}, {Rate: 10000, Burst: 100000}, {Rate: 1, Burst: 100000, Tokens: 99990}} {
		want := start
		for ticks := range 40 {
			if got := impl.RefillBucket(start, ticks); got != want {
				t.Errorf("%+v after %d ticks: got %+v, want %+v", start, ticks, got, want)
			}
			want.Tokens = min(want.Tokens+want.Rate, want.Burst)
		}
		full := start
		if start.Rate > 0 {
			full.Tokens = start.Burst
		}
		for _, ticks := range []int{100000, 999999, 1000000} {
			if got := impl.RefillBucket(start, ticks); got != full {
				t.Errorf("%+v after %d ticks: got %+v", start, ticks, got)
			}
		}
		for _, ticks := range append([]int{-1, 1000001}, far...) {
			if got := impl.RefillBucket(start, ticks); got != start {
				t.Errorf("%+v after %d ticks: got %+v", start, ticks, got)
			}
		}
	}
}

func TestSpendTokens(t *testing.T) {
	for _, b := range []impl.Bucket{bucket(), {}, {Burst: 100000, Tokens: 100000}} {
		for _, n := range append([]int{-1, 0, 1, 19, 20, 21, 50, 99999, 100000, 100001}, far...) {
			want, can := b, n >= 0 && n <= b.Tokens
			if can {
				want.Tokens -= n
			}
			if got, ok := impl.SpendTokens(b, n); got != want || ok != can {
				t.Errorf("%d of %+v: got %+v, %v", n, b, got, ok)
			}
		}
	}
}

func TestBucketsRefuse(t *testing.T) {
	for _, b := range badBuckets() {
		got, ok := impl.SpendTokens(b, 0)
		if got != b || ok || impl.RefillBucket(b, 1) != b || impl.WaitTicks(b, 0) != -1 || impl.PaceLengths(b, []int{1}, 1) != nil {
			t.Errorf("the invalid bucket %+v is used", b)
		}
		if _, ok := impl.SpendTokens(b, -1); ok {
			t.Errorf("the invalid bucket %+v is used", b)
		}
	}
}

func TestWaitTicks(t *testing.T) {
	for _, b := range []impl.Bucket{bucket(), {}, {Burst: 30, Tokens: 12}, {Rate: 7, Burst: 61}, {Rate: 1, Burst: 70, Tokens: 5}, {Rate: 10000, Burst: 60}} {
		for n := -2; n < 80; n++ {
			want := -1
			for ticks := range 100 {
				if _, ok := impl.SpendTokens(impl.RefillBucket(b, ticks), n); ok {
					want = ticks
					break
				}
			}
			if got := impl.WaitTicks(b, n); got != want {
				t.Errorf("%d of %+v: got %d, want %d", n, b, got, want)
			}
		}
		for _, n := range append([]int{100000, 100001}, far...) {
			if got := impl.WaitTicks(b, n); got != -1 {
				t.Errorf("%d of %+v: got %d", n, b, got)
			}
		}
	}
	slow := impl.Bucket{Rate: 1, Burst: 100000}
	if got := impl.WaitTicks(slow, 100000); got != 100000 {
		t.Errorf("the longest wait: got %d", got)
	}
}

// paceModel is PaceLengths as the document says it.
func paceModel(b impl.Bucket, lengths []int, ticks int) []int {
	var sent []int
	for tick := range ticks {
		for len(sent) < len(lengths) && lengths[len(sent)] >= 0 && lengths[len(sent)] <= b.Tokens {
			b.Tokens -= lengths[len(sent)]
			sent = append(sent, tick)
		}
		b.Tokens = min(b.Tokens+b.Rate, b.Burst)
	}
	for len(sent) < len(lengths) {
		sent = append(sent, -1)
	}
	return sent
}

func TestPaceLengths(t *testing.T) {
	cases := []struct {
		lengths []int
		ticks   int
		want    []int
	}{
		{[]int{15, 15, 15}, 3, []int{0, 1, -1}}, {[]int{15, 15, 15}, 4, []int{0, 1, 3}}, {nil, 5, nil}, {[]int{1, 0}, 0, []int{-1, -1}},
		{[]int{20, 0, 0, 1, 0}, 2, []int{0, 0, 0, 1, 1}}, {[]int{5, -1, 0, 5}, 9, []int{0, -1, -1, -1}}, {[]int{51, 1}, 100, []int{-1, -1}},
		{[]int{50, 50}, 9, []int{3, 8}}, {[]int{50, 50}, 8, []int{3, -1}},
	}
	for _, c := range cases {
		if got := impl.PaceLengths(bucket(), c.lengths, c.ticks); !slices.Equal(got, c.want) {
			t.Errorf("%v in %d ticks: got %v, want %v", c.lengths, c.ticks, got, c.want)
		}
		checkPure(t, impl.PaceLengths, bucket(), c.lengths, c.ticks)
	}
	for _, ticks := range append([]int{-1, 1001}, far...) {
		if got := impl.PaceLengths(bucket(), []int{1}, ticks); got != nil {
			t.Errorf("%d ticks: got %v", ticks, got)
		}
	}
	for _, ticks := range []int{999, 1000} {
		one := impl.Bucket{Rate: 1, Burst: 1, Tokens: 1}
		got := impl.PaceLengths(one, slices.Repeat([]int{1}, 1001), ticks)
		if len(got) != 1001 || got[ticks-1] != ticks-1 || got[ticks] != -1 {
			t.Errorf("%d ticks: got %v", ticks, got)
		}
	}
}

func TestNoMoreThanTheBurstAndTheRateIsSpent(t *testing.T) {
	for seed := range uint64(300) {
		r := newRandom(seed)
		b := impl.Bucket{Rate: int(r.UintN(30)), Burst: int(r.UintN(100))}
		b.Tokens = int(r.UintN(uint(b.Burst + 1)))
		var lengths []int
		for range r.UintN(60) {
			lengths = append(lengths, int(r.UintN(uint(b.Burst+2))))
		}
		ticks := int(r.UintN(80))
		sent := impl.PaceLengths(b, lengths, ticks)
		if want := paceModel(b, lengths, ticks); !slices.Equal(sent, want) {
			t.Fatalf("seed %d: %v of %+v in %d ticks: got %v, want %v", seed, lengths, b, ticks, sent, want)
		}
		spent := make([]int, ticks)
		for i, tick := range sent {
			if tick >= 0 {
				spent[tick] += lengths[i]
			}
		}
		for from := range ticks {
			total := 0
			for tick := from; tick < ticks; tick++ {
				total += spent[tick]
				if total > b.Burst+b.Rate*(tick-from) {
					t.Fatalf("seed %d: %+v let %d bytes pass in the ticks %d to %d", seed, b, total, from, tick)
				}
			}
		}
		// The same holds for any order of spending and waiting.
		spentNow, gained := 0, b.Tokens
		for range 60 {
			n := int(r.UintN(40))
			if r.UintN(2) == 0 {
				next, ok := impl.SpendTokens(b, n)
				if ok {
					spentNow += n
				}
				b = next
			} else {
				b = impl.RefillBucket(b, n)
				gained += n * b.Rate
			}
			if spentNow > gained || b.Tokens > b.Burst || b.Tokens < 0 {
				t.Fatalf("seed %d: %d tokens were spent of %d", seed, spentNow, gained)
			}
		}
	}
}
