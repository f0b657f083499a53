package tests

import (
	"slices"
	"testing"

	"loop.example/g03312/impl"
)

// pool is a pool of four buffers, of which the second one is in use.
func pool() impl.Pool { return impl.Pool{Base: 512, Size: 100, Count: 4, Free: []int{3, 0, 2}} }

func samePool(a impl.Pool, b impl.Pool) bool {
	return a.Base == b.Base && a.Size == b.Size && a.Count == b.Count && slices.Equal(a.Free, b.Free)
}

// badPools are pools that are not valid.
func badPools() []impl.Pool {
	changes := []func(*impl.Pool){
		func(p *impl.Pool) { p.Base = -1 }, func(p *impl.Pool) { p.Size = 0 }, func(p *impl.Pool) { p.Size = 513 },
		func(p *impl.Pool) { p.Count = 3 }, func(p *impl.Pool) { p.Count = 17 }, func(p *impl.Pool) { p.Free = []int{3, 0, 3} },
		func(p *impl.Pool) { p.Free = []int{4} }, func(p *impl.Pool) { p.Free = []int{-1} }, func(p *impl.Pool) { p.Free = []int{0, 1, 2, 3, 0} },
	}
	list := []impl.Pool{{}}
	for _, change := range changes {
		p := pool()
		change(&p)
		list = append(list, p)
	}
	return list
}

func TestPoolOk(t *testing.T) {
	if impl.MaxBuffers != 16 || impl.MaxBufferSize != 512 {
		t.Error("other constants", impl.MaxBuffers, impl.MaxBufferSize)
	}
	fields := []field[impl.Pool]{
		{"Base", 0, 1023 * 128, func(p *impl.Pool, n int) { p.Base = n }}, {"Size", 1, 512, func(p *impl.Pool, n int) { p.Size = n }},
		{"Count", 4, 16, func(p *impl.Pool, n int) { p.Count = n }},
		{"the first of Free", 1, 1, func(p *impl.Pool, n int) { p.Free = []int{n, 0, 2, 3} }},
		{"the last of Free", 3, 3, func(p *impl.Pool, n int) { p.Free = []int{1, 2, 0, n} }},
		{"the only one of Free", 0, 3, func(p *impl.Pool, n int) { p.Free = []int{n} }},
	}
	checkFields(t, pool(), fields, impl.PoolOk)
	empty := []field[impl.Pool]{{"Count", 0, 16, func(p *impl.Pool, n int) { p.Count = n }}}
	checkFields(t, impl.Pool{Size: 1}, empty, impl.PoolOk)
	for i, p := range badPools() {
		if impl.PoolOk(p) {
			t.Errorf("the invalid pool %d is accepted", i)
		}
	}
	for i := range 16 {
		for j := range 16 {
			p, _ := impl.NewPool(0, 1, 16)
			p.Free[i] = j
			if got := impl.PoolOk(p); got != (i == j) {
				t.Errorf("with %d at place %d: got %v", j, i, got)
			}
		}
	}
	checkPure(t, impl.PoolOk, pool())
}

func TestNewPool(t *testing.T) {
	for _, base := range append([]int{-1, 0, 5, 1023 * 128, 1023*128 + 1}, far...) {
		for _, size := range append([]int{-1, 0, 1, 100, 512, 513}, far...) {
			for _, count := range append([]int{-1, 0, 1, 2, 15, 16, 17}, far...) {
				var want impl.Pool
				can := base >= 0 && base <= 1023*128 && size >= 1 && size <= 512 && count >= 0 && count <= 16
				if can {
					want = impl.Pool{Base: base, Size: size, Count: count}
					for k := range count {
						want.Free = append(want.Free, k)
					}
				}
				if got, ok := impl.NewPool(base, size, count); ok != can || !samePool(got, want) {
					t.Errorf("NewPool(%d, %d, %d): got %+v, %v", base, size, count, got, ok)
				}
			}
		}
	}
	checkPure(t, impl.NewPool, 0, 1, 5)
}

func TestBufferAddress(t *testing.T) {
	p := pool()
	for k := -3; k <= 6; k++ {
		want := -1
		if k >= 0 && k <= 3 {
			want = 512 + 100*k
		}
		if got := impl.BufferAddress(p, k); got != want {
			t.Errorf("buffer %d is at %d", k, got)
		}
	}
	for _, k := range far {
		if got := impl.BufferAddress(p, k); got != -1 {
			t.Errorf("buffer %d is at %d", k, got)
		}
	}
	for i, bad := range badPools() {
		if got := impl.BufferAddress(bad, 0); got != -1 {
			t.Errorf("a buffer of the invalid pool %d is at %d", i, got)
		}
	}
	checkPure(t, impl.BufferAddress, p, 1)
}

func TestTakeBuffers(t *testing.T) {
	p := pool()
	for n := range 4 {
		want := p
		want.Free = p.Free[n:]
		got, taken, ok := impl.TakeBuffers(p, n)
		if !ok || !samePool(got, want) || !slices.Equal(taken, p.Free[:n]) {
			t.Errorf("taking %d: got %+v, %v, %v", n, got, taken, ok)
		}
		checkPure(t, impl.TakeBuffers, p, n)
	}
	for _, n := range append([]int{-1, 4, 5, 16}, far...) {
		if got, taken, ok := impl.TakeBuffers(p, n); ok || taken != nil || !samePool(got, p) {
			t.Errorf("taking %d: got %+v, %v, %v", n, got, taken, ok)
		}
		checkPure(t, impl.TakeBuffers, p, n)
	}
	for i, bad := range badPools() {
		for n := range 2 {
			if got, taken, ok := impl.TakeBuffers(bad, n); ok || taken != nil || !samePool(got, bad) {
				t.Errorf("taking from the invalid pool %d: got %+v, %v, %v", i, got, taken, ok)
			}
			checkPure(t, impl.TakeBuffers, bad, n)
		}
	}
}

func TestGiveBuffers(t *testing.T) {
	p := pool()
	p.Free = []int{3}
	cases := []struct {
		list []int
		ok   bool
	}{
		{nil, true}, {[]int{0}, true}, {[]int{2, 0, 1}, true}, {[]int{1, 1}, false}, {[]int{3}, false}, {[]int{0, 3}, false},
		{[]int{4}, false}, {[]int{-1}, false}, {[]int{0, 1, 2, 0}, false}, {[]int{0, 1, 2, 4}, false}, {far, false},
	}
	for _, c := range cases {
		want := p
		if c.ok {
			want.Free = slices.Concat(p.Free, c.list)
		}
		if got, ok := impl.GiveBuffers(p, c.list); ok != c.ok || !samePool(got, want) {
			t.Errorf("giving %v: got %+v, %v", c.list, got, ok)
		}
		checkPure(t, impl.GiveBuffers, p, c.list)
	}
	for i, bad := range badPools() {
		for _, list := range [][]int{nil, {1}} {
			if got, ok := impl.GiveBuffers(bad, list); ok || !samePool(got, bad) {
				t.Errorf("giving to the invalid pool %d: got %+v, %v", i, got, ok)
			}
			checkPure(t, impl.GiveBuffers, bad, list)
		}
	}
}

func TestNoBufferIsHandedOutTwice(t *testing.T) {
	for seed := range uint64(60) {
		r := newRandom(seed)
		count := int(seed % 17)
		p, _ := impl.NewPool(100, 64, count)
		owners := map[int]bool{}
		for range 100 {
			if r.UintN(2) == 0 {
				n := int(r.UintN(6))
				rest, taken, ok := impl.TakeBuffers(p, n)
				if ok != (n+len(owners) <= count) || ok && len(taken) != n {
					t.Fatalf("%d of %d buffers beside %d: got %v, %v", n, count, len(owners), taken, ok)
				}
				for _, k := range taken {
					if owners[k] || k < 0 || k >= count {
						t.Fatalf("buffer %d was handed out twice, or does not exist", k)
					}
					owners[k] = true
				}
				p = rest
				continue
			}
			k := int(r.UintN(18)) - 1
			rest, ok := impl.GiveBuffers(p, []int{k})
			if ok != owners[k] {
				t.Fatalf("buffer %d is taken back: %v", k, ok)
			}
			delete(owners, k)
			p = rest
			if !impl.PoolOk(p) || len(p.Free)+len(owners) != count {
				t.Fatalf("%+v and %v do not make %d", p, owners, count)
			}
		}
	}
}

func TestBuffersLieApart(t *testing.T) {
	p, _ := impl.NewPool(77, 130, 16)
	var pieces []impl.Piece
	for k := range 16 {
		pieces = append(pieces, impl.Piece{At: impl.BufferAddress(p, k), Len: p.Size})
	}
	if !impl.PiecesApart(identity(0, 20), 0, pieces) {
		t.Error("two buffers have bytes in common")
	}
}
