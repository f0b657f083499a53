package tests

import (
	"slices"
	"strings"
	"testing"

	"loop.example/g03312/impl"
)

func completion() impl.Completion {
	return impl.Completion{Cookie: 0x0102, Len: 0x0304, Size: 0x0506, Count: 0x0708, Hash: 0x090a0b0c}
}

// completionFine reports whether a completion is accepted; it fails the test if CompletionOk and EncodeCompletion disagree, or the
// completion cannot be decoded.
func completionFine(t *testing.T) func(impl.Completion) bool {
	return func(x impl.Completion) bool {
		ok := impl.CompletionOk(x)
		for phase := range 2 {
			s := impl.EncodeCompletion(x, phase)
			if ok != (s != "") || ok && len(s) != 16 {
				t.Errorf("%+v: CompletionOk returns %v, EncodeCompletion %q", x, ok, s)
			}
			got, is, can := impl.DecodeCompletion(s)
			if can != ok || ok && (got != x || is != phase) || !ok && (got != impl.Completion{} || is != 0) {
				t.Errorf("%+v is decoded as %+v, %d, %v", x, got, is, can)
			}
		}
		return ok
	}
}

func TestCompletionOk(t *testing.T) {
	fields := []field[impl.Completion]{
		{"Cookie", 0, most16, func(x *impl.Completion, n int) { x.Cookie = n }}, {"Len", 0, most16, func(x *impl.Completion, n int) { x.Len = n }},
		{"Size", 0, most16, func(x *impl.Completion, n int) { x.Size = n }}, {"Count", 0, most16, func(x *impl.Completion, n int) { x.Count = n }},
		{"Hash", 0, most32, func(x *impl.Completion, n int) { x.Hash = n }},
	}
	checkFields(t, completion(), fields, completionFine(t))
	checkFields(t, impl.Completion{}, fields, completionFine(t))
}

func TestEncodeCompletion(t *testing.T) {
	most := impl.Completion{Cookie: most16, Len: most16, Size: most16, Count: most16, Hash: most32}
	cases := []struct {
		x     impl.Completion
		phase int
		want  string
	}{
		{completion(), 0, "\x01\x02\x03\x04\x05\x06\x07\x08\x09\x0a\x0b\x0c\x00\x00\x00\x00"},
		{completion(), 1, "\x01\x02\x03\x04\x05\x06\x07\x08\x09\x0a\x0b\x0c\x00\x00\x00\x01"},
		{impl.Completion{}, 0, strings.Repeat("\x00", 16)}, {most, 1, strings.Repeat("\xff", 12) + "\x00\x00\x00\x01"},
	}
	for _, c := range cases {
		if got := impl.EncodeCompletion(c.x, c.phase); got != c.want {
			t.Errorf("%+v with the phase %d: got %q", c.x, c.phase, got)
		}
	}
	for _, phase := range append([]int{-1, 2, 3, 256}, far...) {
		if got := impl.EncodeCompletion(completion(), phase); got != "" {
			t.Errorf("the phase %d: got %q", phase, got)
		}
	}
}

func TestDecodeCompletion(t *testing.T) {
	s := impl.EncodeCompletion(completion(), 1)
	refuse := func(s string) {
		t.Helper()
		if x, phase, ok := impl.DecodeCompletion(s); ok || x != (impl.Completion{}) || phase != 0 {
			t.Errorf("%q: got %+v, %d, %v", s, x, phase, ok)
		}
	}
	for n := range 16 {
		refuse(s[:n])
	}
	refuse(s + "\x00")
	refuse(s + s)
	for at := range 16 {
		for b := range 256 {
			changed := put(s, at, string([]byte{byte(b)}))
			if at >= 12 && at < 15 && b != 0 || at == 15 && b > 1 {
				refuse(changed)
				continue
			}
			x, phase, ok := impl.DecodeCompletion(changed)
			if !ok || impl.EncodeCompletion(x, phase) != changed {
				t.Errorf("byte %d is %d: got %+v, %d, %v", at, b, x, phase, ok)
			}
		}
	}
	// Several bytes that together are one character are still several bytes.
	r := newRandom(25)
	for _, fields := range []string{"\u00e9\u4e16\u754cabcd", "\U0001f600\U0001f600\u00e9\u00e9", "\u00e9\u00e9\u00e9\u00e9\u00e9\u00e9", randomText(r, 12), randomText(r, 12)} {
		x, phase, ok := impl.DecodeCompletion(fields + "\x00\x00\x00\x01")
		want := impl.Completion{Cookie: word(fields, 0), Len: word(fields, 2), Size: word(fields, 4), Count: word(fields, 6), Hash: word(fields, 8)<<16 + word(fields, 10)}
		if x != want || phase != 1 || !ok {
			t.Errorf("%q: got %+v, %d, %v", fields, x, phase, ok)
		}
	}
}

// badQueues are completion queues that are not valid.
func badQueues() []impl.CompletionQueue {
	return []impl.CompletionQueue{{}, {Size: 1}, {Size: 3}, {Size: 32}, {Size: -2}, {Base: -1, Size: 4}, {Base: 1023*128 + 1, Size: 4}, {Size: 4, Count: 8}, {Size: 4, Count: -1}}
}

func TestQueueOk(t *testing.T) {
	for _, size := range append([]int{-2, 0, 1, 2, 3, 4, 5, 8, 12, 15, 16, 17, 32}, far...) {
		for count := -2; count <= 34; count++ {
			known := slices.Contains([]int{2, 4, 8, 16}, size)
			if got := impl.QueueOk(impl.CompletionQueue{Size: size, Count: count}); got != (known && count >= 0 && count < 2*size) {
				t.Errorf("the count %d among %d: got %v", count, size, got)
			}
		}
	}
	fields := []field[impl.CompletionQueue]{
		{"Base", 0, 1023 * 128, func(q *impl.CompletionQueue, n int) { q.Base = n }}, {"Count", 0, 15, func(q *impl.CompletionQueue, n int) { q.Count = n }},
	}
	checkFields(t, impl.CompletionQueue{Base: 5, Size: 8, Count: 3}, fields, impl.QueueOk)
	for _, q := range badQueues() {
		if impl.QueueOk(q) {
			t.Errorf("%+v is accepted", q)
		}
	}
}

func TestPutCompletion(t *testing.T) {
	list, m := mappings(), memory(3)
	for _, size := range []int{2, 4, 8, 16} {
		for count := range 2 * size {
			q := impl.CompletionQueue{Base: 384 + 120, Size: size, Count: count}
			phase := 0
			if count < size {
				phase = 1
			}
			s := impl.EncodeCompletion(completion(), phase)
			want, can := writeModel(list, m, 2, 384+120+16*(count%size), s, true)
			next := q
			if can {
				next.Count = (count + 1) % (2 * size)
			}
			got, queue, ok := impl.PutCompletion(list, m, 2, q, completion())
			if ok != can || queue != next || !sameMemory(got, want) {
				t.Errorf("PutCompletion to %+v: got %+v, %v", q, queue, ok)
			}
			x, after, read := impl.NextCompletion(list, got, 2, q)
			if ok && (!read || x != completion() || after != next) {
				t.Errorf("NextCompletion of %+v: got %+v, %+v, %v", q, x, after, read)
			}
		}
	}
}

func TestNextCompletion(t *testing.T) {
	list := identity(1, 3)
	for _, size := range []int{2, 4, 8, 16} {
		for count := range 2 * size {
			q := impl.CompletionQueue{Base: 50, Size: size, Count: count}
			for phase := range 2 {
				for _, x := range []impl.Completion{completion(), {}} {
					m, _ := impl.WriteMemory(memory(3), 50+16*(count%size), impl.EncodeCompletion(x, phase))
					want, next, can := impl.Completion{}, q, (phase == 1) == (count < size)
					if can {
						want = x
						next.Count = (count + 1) % (2 * size)
					}
					if got, queue, ok := impl.NextCompletion(list, m, 1, q); got != want || queue != next || ok != can {
						t.Errorf("%+v with the phase %d: got %+v, %+v, %v", q, phase, got, queue, ok)
					}
				}
			}
			m, _ := impl.WriteMemory(memory(3), 50+16*(count%size), text(12)+"\x00\x00\x00\x02")
			if got, queue, ok := impl.NextCompletion(list, m, 1, q); got != (impl.Completion{}) || queue != q || ok {
				t.Errorf("an entry with the phase 2: got %+v, %+v, %v", got, queue, ok)
			}
			// In memory that is zero there is no entry, until the phase 0 comes.
			if _, _, ok := impl.NextCompletion(list, impl.NewMemory(3), 1, q); ok != (count >= size) {
				t.Errorf("zeros at the count %d of %d: got %v", count, size, ok)
			}
		}
	}
}

func TestCompletionQueuesRefuse(t *testing.T) {
	q := impl.CompletionQueue{Base: 384, Size: 4, Count: 1}
	refuse := func(name string, list []impl.Mapping, m impl.Memory, domain int, q impl.CompletionQueue, x impl.Completion) {
		t.Helper()
		if got, queue, ok := impl.PutCompletion(list, m, domain, q, x); ok || queue != q || !sameMemory(got, m) {
			t.Errorf("%s: PutCompletion returns %+v, %v", name, queue, ok)
		}
		checkPure(t, impl.PutCompletion, list, m, domain, q, x)
	}
	refuseBoth := func(name string, list []impl.Mapping, m impl.Memory, domain int, q impl.CompletionQueue) {
		t.Helper()
		refuse(name, list, m, domain, q, completion())
		if got, queue, ok := impl.NextCompletion(list, m, domain, q); ok || queue != q || got != (impl.Completion{}) {
			t.Errorf("%s: NextCompletion returns %+v, %+v, %v", name, got, queue, ok)
		}
	}
	m, _, _ := impl.PutCompletion(mappings(), memory(3), 2, q, completion())
	for _, bad := range badQueues() {
		refuseBoth("an invalid queue", mappings(), m, 2, bad)
	}
	refuseBoth("another domain", mappings(), m, 3, q)
	refuseBoth("no such memory", mappings(), memory(2), 2, q)
	for _, list := range invalidMappings() {
		refuseBoth("invalid mappings", list, m, 2, q)
	}
	for _, bad := range invalidMemories() {
		refuseBoth("an invalid memory", mappings(), bad, 2, q)
	}
	refuse("an invalid completion", mappings(), m, 2, q, impl.Completion{Len: -1})
	readOnly := q
	readOnly.Base = 640
	refuse("a page that is read only", mappings(), m, 2, readOnly, completion())
	host, _ := impl.HostWrite(mappings(), m, 2, 640+16, impl.EncodeCompletion(completion(), 1))
	if got, _, ok := impl.NextCompletion(mappings(), host, 2, readOnly); got != completion() || !ok {
		t.Errorf("NextCompletion of read only memory: got %+v, %v", got, ok)
	}
	checkPure(t, impl.PutCompletion, mappings(), m, 2, q, completion())
	checkPure(t, impl.NextCompletion, mappings(), m, 2, q)
}

func TestCompletionsAreReadInTheirOrder(t *testing.T) {
	for seed := range uint64(40) {
		r := newRandom(seed)
		size := []int{2, 4, 8, 16}[seed%4]
		list, m := identity(0, 4), impl.NewMemory(4)
		device := impl.CompletionQueue{Base: 100, Size: size}
		driver := device
		var written []impl.Completion
		none := 0
		for k := range 400 {
			if r.UintN(2) == 0 && len(written) < size {
				x := impl.Completion{Cookie: k, Len: int(r.UintN(2)), Hash: int(r.Uint32())}
				if r.UintN(4) == 0 {
					x = impl.Completion{}
				}
				after, next, ok := impl.PutCompletion(list, m, 0, device, x)
				if !ok {
					t.Fatalf("seed %d: a completion is not put", seed)
				}
				m, device = after, next
				written = append(written, x)
				continue
			}
			x, next, ok := impl.NextCompletion(list, m, 0, driver)
			if ok != (len(written) > 0) || ok && x != written[0] {
				t.Fatalf("seed %d: got %+v, %v of %+v", seed, x, ok, written)
			}
			if ok {
				written = written[1:]
			} else {
				none++
			}
			driver = next
		}
		if none == 0 {
			t.Errorf("seed %d: the queue was never empty", seed)
		}
	}
}
