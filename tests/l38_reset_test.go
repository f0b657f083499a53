package tests

import (
	"slices"
	"strings"
	"testing"

	"loop.example/g03312/impl"
)

// resetModel is HostReset as the document says it.
func resetModel(h impl.Host) impl.Host {
	if !impl.HostOk(h) {
		return h
	}
	h = copyOf(h)
	for k := range h.Rx {
		h.Memory, h.Rx[k], h.Pools[k], h.Streams, _ = impl.PollQueue(h.Maps, h.Memory, 0, h.Rx[k], h.Pools[k], h.Streams, 1000)
	}
	for _, x := range h.Tx.Waiting {
		h.Returned = append(h.Returned, x.Cookie)
	}
	h.Tx = impl.TxQueue{Ring: impl.Ring{Size: 16}, Pool: impl.Pool{Base: 256, Size: 128, Count: 8, Free: []int{0, 1, 2, 3, 4, 5, 6, 7}}, Next: h.Tx.Next}
	for k, q := range h.Rx {
		base := 1280 + 1792*k
		done := impl.CompletionQueue{Base: base + 64, Size: 4}
		h.Memory, _ = writeModel(h.Maps, h.Memory, 0, base, strings.Repeat("\x00", 128), false)
		h.Rx[k] = impl.RxQueue{Ring: impl.Ring{Base: base, Size: 4}, Device: done, Driver: done, Dropped: q.Dropped}
		if q.Holding {
			h.Rx[k].Dropped += q.Held.Count
		}
		h.Pools[k] = impl.Pool{Base: base + 128, Size: 384, Count: 4, Free: []int{0, 1, 2, 3}}
		h.Memory, h.Rx[k].Ring, h.Pools[k], _ = impl.FillRing(h.Maps, h.Memory, 0, h.Rx[k].Ring, h.Pools[k])
		h.Vectors[k] = impl.Vector{MaxCount: h.Vectors[k].MaxCount, MaxTime: h.Vectors[k].MaxTime}
		h.Polling[k] = false
	}
	return h
}

// elsewhere is a host whose first receiving queue is laid out in another way, in what was the place of the second one.
func elsewhere(t testing.TB) impl.Host {
	h := busyHost(t)
	one := impl.Steering{Table: impl.NewTable(), Spread: impl.Spread{Key: rssKey, Table: []int{0}}}
	h.Rx, h.Pools, h.Vectors, h.Polling, h.Steering = h.Rx[:1], h.Pools[:1], h.Vectors[:1], h.Polling[:1], one
	start := impl.CompletionQueue{Base: 3300, Size: 8}
	h.Memory, _ = impl.HostWrite(h.Maps, h.Memory, 0, 3300, strings.Repeat("\x00", 128))
	h.Rx[0] = impl.RxQueue{Ring: impl.Ring{Base: 3000, Size: 16}, Device: start, Driver: start, Dropped: 3}
	h.Pools[0], _ = impl.NewPool(3500, 300, 4)
	h.Memory, h.Rx[0].Ring, h.Pools[0], _ = impl.FillRing(h.Maps, h.Memory, 0, h.Rx[0].Ring, h.Pools[0])
	h = impl.HostFlush(impl.HostReceive(impl.HostReceive(h, frame(udp("here"))), frame(udp("there"))))
	if !impl.HostOk(h) || !impl.HasCompletion(h.Maps, h.Memory, 0, h.Rx[0]) {
		t.Fatal("the host is not as it has to be")
	}
	return h
}

func TestHostReset(t *testing.T) {
	hosts := append(manyHosts(t), elsewhere(t))
	for i, h := range hosts {
		for _, x := range []impl.Host{h, impl.HostFlush(h), impl.HostTransmit(h), impl.HostReceive(h, frame(tcp("more")))} {
			got, want := impl.HostReset(x), resetModel(x)
			if !same(got, want) {
				t.Errorf("host %d: got %+v, %+v, want %+v, %+v", i, got.Rx, got.Tx, want.Rx, want.Tx)
			}
			if !impl.HostOk(got) {
				t.Errorf("host %d is not valid after a reset", i)
			}
		}
		checkPure(t, impl.HostReset, h)
	}
	for name, h := range badHosts(t) {
		if !same(impl.HostReset(h), h) {
			t.Errorf("an invalid host is reset: %s", name)
		}
	}
}

func TestHostResetKeepsAccounts(t *testing.T) {
	h := busyHost(t)
	held := 0
	for _, q := range h.Rx {
		held += q.Held.Count
	}
	got := impl.HostReset(h)
	if held == 0 || impl.HostDropped(got) != impl.HostDropped(h)+held {
		t.Errorf("%d packets were held; %d were dropped before, %d after", held, impl.HostDropped(h), impl.HostDropped(got))
	}
	if !slices.Equal(got.Returned, []int{77, 1, 2}) || !slices.Equal(got.Completed, []int{0}) || got.Tx.Next != 3 || got.Counters != h.Counters || !slices.Equal(got.Wire, h.Wire) {
		t.Errorf("got %+v, %v, %v, %+v", got.Tx, got.Returned, got.Completed, got.Counters)
	}
	// What was received completely is delivered before the reset.
	waiting := impl.HostFlush(h)
	if data := impl.DataOf(impl.HostReset(waiting).Streams, impl.FlowOf(udp(""))); data != "\x00\x01x\x00\x01y" {
		t.Errorf("the stream is %q", data)
	}
	// A queue that drops as many as possible is not valid any longer.
	most := copyOf(h)
	for k := range most.Rx {
		most.Rx[k].Dropped = 1000000000000
	}
	if got := impl.HostReset(most); impl.HostDropped(got) != 2000000000000+held || impl.HostOk(got) {
		t.Errorf("very many dropped packets: got %d", impl.HostDropped(got))
	}
}

func TestHostAccount(t *testing.T) {
	h := busyHost(t)
	if got := impl.HostAccount(h); !slices.Equal(got, []int{0, 77, 1, 2}) {
		t.Errorf("got %v", got)
	}
	h.Completed, h.Returned = []int{5, 5, -1}, []int{5, 9}
	h.Tx.Waiting = append(h.Tx.Waiting, impl.Sent{Cookie: 5})
	if got := impl.HostAccount(h); !slices.Equal(got, []int{5, 5, -1, 5, 9, 1, 2, 5}) {
		t.Errorf("got %v", got)
	}
	if got := impl.HostAccount(impl.Host{}); len(got) != 0 {
		t.Errorf("the zero host: got %v", got)
	}
	checkPure(t, impl.HostAccount, h)
	only := impl.Host{Completed: []int{1, 2}}
	checkPure(t, impl.HostAccount, only)
}

func TestIsQuiet(t *testing.T) {
	h := newHost(t, true, 64, 64)
	if !impl.IsQuiet(h) {
		t.Error("a new host is not quiet")
	}
	sending, _ := impl.HostSend(h, udp("x"), 100, 100)
	held := impl.HostReceive(h, frame(udp("x")))
	first := impl.HostReceive(h, frame(flagged(tcp("x"), impl.FlagSyn)))
	reported := impl.HostFlush(held)
	for name, busy := range map[string]impl.Host{"sending": sending, "holding": held, "holding in a queue": first, "a completion": reported, "another completion": impl.HostFlush(first)} {
		if impl.IsQuiet(busy) {
			t.Errorf("%s: the host is quiet", name)
		}
		checkPure(t, impl.IsQuiet, busy)
	}
	if !impl.IsQuiet(impl.HostTransmit(sending)) || !impl.IsQuiet(impl.HostReset(reported)) || !impl.IsQuiet(impl.HostReceive(h, "x")) {
		t.Error("a host that has nothing to do is not quiet")
	}
	// Queues may be polled, and events be counted, in a quiet host.
	polled := copyOf(h)
	polled.Polling[0], polled.Vectors[1].Count = true, 1
	if !impl.IsQuiet(polled) {
		t.Error("a polled host is not quiet")
	}
	for name, bad := range badHosts(t) {
		if impl.IsQuiet(bad) {
			t.Errorf("an invalid host is quiet: %s", name)
		}
	}
	bad := copyOf(h)
	bad.Counters.Bad = -1
	if impl.IsQuiet(bad) {
		t.Error("an invalid host is quiet")
	}
}

func TestDrainHost(t *testing.T) {
	for i, h := range manyHosts(t) {
		for _, budget := range []int{1, 2, 1000} {
			want := impl.HostFlush(impl.HostTransmit(h))
			for rounds := range 8 {
				if got := impl.DrainHost(h, budget, rounds); !same(got, want) {
					t.Errorf("host %d with the budget %d and %d rounds: got %+v, %+v", i, budget, rounds, got.Rx, got.Vectors)
				}
				want, _ = impl.HostService(impl.HostTick(want), budget)
			}
		}
		for _, n := range append([]int{-1, 0, 1001}, far...) {
			if got := impl.DrainHost(h, n, 3); !same(got, h) {
				t.Errorf("host %d: the budget %d is accepted", i, n)
			}
		}
		for _, n := range append([]int{-1, 201}, far...) {
			if got := impl.DrainHost(h, 3, n); !same(got, h) {
				t.Errorf("host %d: %d rounds are accepted", i, n)
			}
		}
		checkPure(t, impl.DrainHost, h, 3, 4)
		checkPure(t, impl.DrainHost, h, 0, 4)
	}
	// The most rounds let the longest moderation pass.
	slow := impl.HostReceive(newHost(t, true, 64, 64), frame(udp("late")))
	if got := impl.DrainHost(slow, 1, 63); impl.IsQuiet(got) {
		t.Error("the interrupt came too early")
	}
	for _, rounds := range []int{64, 199, 200} {
		if got := impl.DrainHost(slow, 1, rounds); !impl.IsQuiet(got) {
			t.Errorf("after %d rounds the host is not quiet", rounds)
		}
	}
	for name, h := range badHosts(t) {
		if !same(impl.DrainHost(h, 4, 4), h) {
			t.Errorf("an invalid host is drained: %s", name)
		}
	}
}

// randomStep does something with a host, but no reset.
func randomStep(t testing.TB, h impl.Host, seed uint64) impl.Host {
	r := newRandom(seed)
	switch r.UintN(8) {
	case 0, 1:
		h, _ = impl.HostSend(h, tcp(randomText(r, int(r.UintN(200)))), 1+int(r.UintN(128)), 1+int(r.UintN(128)))
	case 2:
		h = impl.HostTransmit(h)
	case 3:
		h = impl.HostFlush(h)
	case 4:
		h = impl.HostTick(h)
	case 5:
		h, _ = impl.HostService(h, 1+int(r.UintN(5)))
	default:
		h = impl.HostReceive(h, randomFrame(r.Uint64()))
	}
	return h
}

func TestEachPacketIsAccountedForOnce(t *testing.T) {
	returned, completed := 0, 0
	for seed := range uint64(30) {
		r := newRandom(seed)
		h := newHost(t, true, 1+int(r.UintN(4)), int(r.UintN(4)))
		for range 120 {
			if r.UintN(12) == 0 {
				h = impl.HostReset(h)
				if !impl.IsQuiet(h) {
					t.Fatalf("seed %d: after a reset the host is not quiet", seed)
				}
			} else {
				h = randomStep(t, h, r.Uint64())
			}
			account := impl.HostAccount(h)
			slices.Sort(account)
			for k, cookie := range account {
				if cookie != k {
					t.Fatalf("seed %d: the account is %v", seed, account)
				}
			}
			if len(account) != h.Tx.Next {
				t.Fatalf("seed %d: %d packets were sent, %d are accounted for", seed, h.Tx.Next, len(account))
			}
		}
		returned, completed = returned+len(h.Returned), completed+len(h.Completed)
		if got := impl.DrainHost(h, 4, 20); !impl.IsQuiet(got) || len(got.Tx.Pool.Free) != 8 {
			t.Errorf("seed %d: draining leaves %+v, %+v", seed, got.Rx, got.Tx)
		}
	}
	if returned < 100 || completed < 200 {
		t.Errorf("%d packets were returned, %d completed", returned, completed)
	}
}

func TestAResetHostWorksLikeANewOne(t *testing.T) {
	for seed := range uint64(20) {
		r := newRandom(seed)
		fresh := newHost(t, seed%2 == 0, 1+int(r.UintN(3)), int(r.UintN(3)))
		h := fresh
		for range 60 {
			h = randomStep(t, h, r.Uint64())
		}
		h = impl.HostReset(h)
		before := h
		// From the reset on, both do the same, except for what was before.
		fresh.Streams, fresh.Tx.Next = h.Streams, h.Tx.Next
		for range 60 {
			step := r.Uint64()
			h, fresh = randomStep(t, h, step), randomStep(t, fresh, step)
			if !slices.Equal(h.Streams, fresh.Streams) || !slices.Equal(h.Wire[len(before.Wire):], fresh.Wire) || !slices.Equal(h.Completed[len(before.Completed):], fresh.Completed) {
				t.Fatalf("seed %d: the reset host does not work like the new one", seed)
			}
			if !slices.Equal(h.Vectors, fresh.Vectors) || !slices.Equal(h.Polling, fresh.Polling) || impl.HostDropped(h)-impl.HostDropped(before) != impl.HostDropped(fresh) || !same(h.Pools, fresh.Pools) || !same(h.Tx, fresh.Tx) {
				t.Fatalf("seed %d: the reset host is %+v, %+v, the new one %+v, %+v", seed, h.Rx, h.Vectors, fresh.Rx, fresh.Vectors)
			}
		}
	}
}
