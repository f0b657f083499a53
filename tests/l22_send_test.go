package tests

import (
	"slices"
	"strings"
	"testing"

	"loop.example/g03312/impl"
)

// blanked is an image with zero in place of its two checksums.
func blanked(p impl.Packet, s string) string {
	ip := 14
	if p.Vlan != -1 {
		ip = 18
	}
	sum := 16
	if p.Seg.Kind == impl.KindUdp {
		sum = 6
	}
	return put(put(s, ip+10, "\x00\x00"), ip+20+sum, "\x00\x00")
}

func TestTemplate(t *testing.T) {
	for _, p := range manyPackets() {
		s, ok := impl.BuildImage(p)
		want := ""
		if ok {
			want = blanked(p, s)
		}
		if got, is := impl.Template(p); got != want || is != ok {
			t.Fatalf("the template of %+v is %q, %v", p, got, is)
		}
		if got, is := impl.FillSums(want); got != s || is != ok {
			t.Fatalf("the template of %+v is filled as %q, %v", p, got, is)
		}
	}
	for _, p := range []impl.Packet{{}, udp(text(129)), tcp(text(321)), withTag(tcp("a"), 4096), flagged(tcp(text(129)), 0)} {
		if got, ok := impl.Template(p); got != "" || ok {
			t.Errorf("the template of %+v is %q, %v", p, got, ok)
		}
	}
}

// fillModel fills in the sums as they are counted by the tests, and takes the result if it is the image of a packet with
// this template.
func fillModel(s string) (string, bool) {
	e, ok := impl.ParseEth(s)
	if !ok {
		return "", false
	}
	b := e.Body
	n, kind := word(b, 2), int(b[9])
	sum := map[int]int{impl.KindTcp: 16, impl.KindUdp: 6}[kind]
	if n < 20+sum+2 || n > len(b) || sum == 0 {
		return "", false
	}
	pseudo := b[12:20] + "\x00" + b[9:10] + bytes16(n-20)
	check := most16 - folded(pseudo+b[20:n])
	if check == 0 && kind == impl.KindUdp {
		check = most16
	}
	at := len(s) - len(b)
	filled := put(put(s, at+10, bytes16(most16-folded(b[:20]))), at+20+sum, bytes16(check))
	p, code := impl.ReadImage(filled)
	again, _ := impl.BuildImage(p)
	if code != impl.FrameFine || again != filled || blanked(p, filled) != s {
		return "", false
	}
	return filled, true
}

func checkFill(t *testing.T, s string) bool {
	t.Helper()
	want, can := fillModel(s)
	got, ok := impl.FillSums(s)
	if got != want || ok != can {
		t.Fatalf("FillSums(%q): got %q, %v, want %v", s, got, ok, can)
	}
	return ok
}

func TestFillSums(t *testing.T) {
	filled, refused := 0, 0
	for _, p := range []impl.Packet{tcp(""), tcp("hello"), tcp(text(320)), withTag(tcp("abc"), 5), udp(""), udp("hi"), withTag(udp(text(128)), 0)} {
		s, _ := impl.Template(p)
		for bit := range 8 * len(s) {
			if checkFill(t, flip(s, bit)) {
				filled++
			} else {
				refused++
			}
		}
		for n := range len(s) {
			if checkFill(t, s[:n]) {
				t.Errorf("%d bytes of the template of %+v are filled", n, p)
			}
		}
		checkFill(t, s+"\x00")
		checkFill(t, s+"x")
		image, _ := impl.BuildImage(p)
		if checkFill(t, image) {
			t.Errorf("the image of %+v is filled", p)
		}
	}
	if filled < 1000 || refused < 500 {
		t.Errorf("%d templates with a changed bit were filled, %d refused", filled, refused)
	}
}

func TestFillSumsRefuses(t *testing.T) {
	p := udp("hi")
	s, _ := impl.Template(p)
	long := func(p impl.Packet) string {
		g, _ := impl.BuildSegment(p.SrcIp, p.DstIp, p.Seg)
		d, _ := impl.BuildIp(impl.Ip{Ttl: 1, Proto: p.Seg.Kind, Src: p.SrcIp, Dst: p.DstIp, Body: g})
		return blanked(p, frameOf(p, impl.IpType, impl.PadBody(d)))
	}
	cases := map[string]string{
		"nothing": "", "no frame": s[:59], "zeros": strings.Repeat("\x00", 64), "another type": put(s, 12, "\x08\x01"), "another version": put(s, 14, "\x46"),
		"a fragment": put(s, 20, "\x00\x00"), "another kind": put(s, 23, "\x07"), "padding that is not zero": put(s, 59, "x"), "more padding": s + "\x00",
		"a length of less than a header": put(s, 16, bytes16(19)), "a length without a segment": put(s, 16, bytes16(27)), "a length past the end": put(s, 16, bytes16(47)),
		"another length": put(s, 16, bytes16(29)), "another length of the segment": put(s, 38, bytes16(9)),
		"a header's sum": put(s, 24, "\x00\x01"), "a segment's sum": put(s, 40, "\xff\xff"),
		"a long datagram": long(udp(text(129))), "a long packet with FlagSyn": long(flagged(tcp(text(129)), impl.FlagSyn)),
	}
	for name, c := range cases {
		if got, ok := impl.FillSums(c); got != "" || ok {
			t.Errorf("%s: got %q, %v", name, got, ok)
		}
	}
	if _, ok := impl.FillSums(long(tcp(text(320)))); !ok {
		t.Error("the longest super-packet is refused")
	}
	// A sum of 0 is written as 65535 in a datagram.
	for n := range most16 + 1 {
		q := udp(bytes16(n))
		image, _ := impl.BuildImage(q)
		if word(image, 40) != most16 {
			continue
		}
		template, _ := impl.Template(q)
		if got, ok := impl.FillSums(template); got != image || !ok {
			t.Errorf("the datagram with the sum 65535 is filled as %q, %v", got, ok)
		}
		return
	}
	t.Error("no datagram has the sum 65535")
}

// txQueue is a sending queue with eight buffers in domain 1, in which two packets wait.
func txQueue() impl.TxQueue {
	return impl.TxQueue{
		Ring:    impl.Ring{Base: 64, Size: 16, Head: 30, Tail: 3},
		Pool:    impl.Pool{Base: 512, Size: 100, Count: 8, Free: []int{6, 0, 5, 3, 4}},
		Waiting: []impl.Sent{{Cookie: 9, Slots: 3, Buffers: []int{2, 7}}, {Cookie: 65535, Slots: 2, Buffers: []int{1}}},
		Next:    65535,
	}
}

func sameTx(a impl.TxQueue, b impl.TxQueue) bool {
	sameSent := func(x impl.Sent, y impl.Sent) bool {
		return x.Cookie == y.Cookie && x.Slots == y.Slots && slices.Equal(x.Buffers, y.Buffers)
	}
	return a.Ring == b.Ring && samePool(a.Pool, b.Pool) && a.Next == b.Next && slices.EqualFunc(a.Waiting, b.Waiting, sameSent)
}

// txMaps let a device write to the ring only.
func txMaps() []impl.Mapping {
	list := identity(1, 12)
	for k := 4; k < len(list); k++ {
		list[k].Writable = false
	}
	return list
}

// badTx are queues that are not valid.
func badTx() []impl.TxQueue {
	changes := []func(*impl.TxQueue){
		func(q *impl.TxQueue) { q.Ring.Size = 5 }, func(q *impl.TxQueue) { q.Ring.Tail = 32 }, func(q *impl.TxQueue) { q.Pool.Size = 0 },
		func(q *impl.TxQueue) { q.Pool.Free[0] = 0 }, func(q *impl.TxQueue) { q.Next = -1 }, func(q *impl.TxQueue) { q.Next = 65536 },
		func(q *impl.TxQueue) { q.Waiting[0].Slots = 15 }, func(q *impl.TxQueue) { q.Waiting[1].Slots = 0 }, func(q *impl.TxQueue) { q.Waiting[0].Slots = -1 },
		func(q *impl.TxQueue) { q.Waiting[0].Cookie = -1 }, func(q *impl.TxQueue) { q.Waiting[1].Cookie = 65536 },
		func(q *impl.TxQueue) { q.Waiting[1].Buffers = []int{6} }, func(q *impl.TxQueue) { q.Waiting[1].Buffers = []int{2} },
		func(q *impl.TxQueue) { q.Waiting[1].Buffers = []int{8} }, func(q *impl.TxQueue) { q.Waiting[0].Buffers = []int{1, 1} },
		func(q *impl.TxQueue) { q.Waiting[0].Buffers = []int{-1} },
	}
	list := []impl.TxQueue{{}}
	for _, change := range changes {
		q := txQueue()
		change(&q)
		list = append(list, q)
	}
	return list
}

func TestTxOk(t *testing.T) {
	fields := []field[impl.TxQueue]{
		{"Next", 0, most16, func(q *impl.TxQueue, n int) { q.Next = n }},
		{"Slots", 1, 14, func(q *impl.TxQueue, n int) { q.Waiting = txQueue().Waiting; q.Waiting[0].Slots = n }},
		{"Slots of the last one", 1, 13, func(q *impl.TxQueue, n int) { q.Waiting = txQueue().Waiting; q.Waiting[1].Slots = n }},
		{"Cookie", 0, most16, func(q *impl.TxQueue, n int) { q.Waiting = txQueue().Waiting; q.Waiting[1].Cookie = n }},
		{"a buffer", 1, 1, func(q *impl.TxQueue, n int) { q.Waiting = txQueue().Waiting; q.Waiting[1].Buffers = []int{n} }},
	}
	checkFields(t, txQueue(), fields, impl.TxOk)
	for i, q := range badTx() {
		if impl.TxOk(q) {
			t.Errorf("the invalid queue %d is accepted", i)
		}
	}
	for n := range 20 {
		q := txQueue()
		q.Waiting = slices.Repeat([]impl.Sent{{Slots: 1}}, n)
		if got := impl.TxOk(q); got != (n <= 16) {
			t.Errorf("with %d packets that wait: got %v", n, got)
		}
	}
	// Slots that overflow together are too many, too.
	q := txQueue()
	q.Waiting = slices.Repeat([]impl.Sent{{Slots: 1 << 62}}, 4)
	if impl.TxOk(q) {
		t.Error("very many slots are accepted")
	}
	checkPure(t, impl.TxOk, txQueue())
}

// sendModel is SendPacket as the document says it, step by step.
func sendModel(list []impl.Mapping, m impl.Memory, domain int, q impl.TxQueue, p impl.Packet, size int, cut int) (impl.Memory, impl.TxQueue, bool) {
	s, ok := impl.Template(p)
	if !impl.TxOk(q) || !ok || cut < 1 || cut > q.Pool.Size || size < 1 || size > 128 {
		return m, q, false
	}
	n := (len(s) + cut - 1) / cut
	slots := n + 1
	for _, x := range q.Waiting {
		slots += x.Slots
	}
	if n > len(q.Pool.Free) || n+1 > impl.RingFree(q.Ring) || slots > q.Ring.Size || n > 16 {
		return m, q, false
	}
	after, next := m, q
	var pieces []impl.Piece
	for k, b := range q.Pool.Free[:n] {
		part := s[k*cut : min(k*cut+cut, len(s))]
		pieces = append(pieces, impl.Piece{At: q.Pool.Base + b*q.Pool.Size, Len: len(part)})
		if after, ok = writeModel(list, after, domain, pieces[k].At, part, false); !ok {
			return m, q, false
		}
	}
	for k, x := range impl.DescribePacket(pieces, size, q.Next) {
		at := q.Ring.Base + (q.Ring.Tail+k)%q.Ring.Size*16
		if after, ok = writeModel(list, after, domain, at, impl.EncodeDesc(x), true); !ok {
			return m, q, false
		}
	}
	next.Ring.Tail = (q.Ring.Tail + n + 1) % (2 * q.Ring.Size)
	next.Pool.Free = q.Pool.Free[n:]
	next.Waiting = append(slices.Clone(q.Waiting), impl.Sent{Cookie: q.Next, Slots: n + 1, Buffers: q.Pool.Free[:n]})
	next.Next = (q.Next + 1) % 65536
	return after, next, true
}

func checkSend(t *testing.T, list []impl.Mapping, m impl.Memory, domain int, q impl.TxQueue, p impl.Packet, size int, cut int) (impl.Memory, impl.TxQueue, bool) {
	t.Helper()
	wantMemory, want, can := sendModel(list, m, domain, q, p, size, cut)
	after, next, ok := impl.SendPacket(list, m, domain, q, p, size, cut)
	if ok != can || !sameTx(next, want) || !sameMemory(after, wantMemory) {
		t.Errorf("SendPacket of %d bytes in pieces of %d: got %+v, %v, want %+v, %v", len(p.Seg.Body), cut, next, ok, want, can)
	}
	return after, next, ok
}

func TestSendPacket(t *testing.T) {
	m := memory(12)
	sent := 0
	for _, p := range []impl.Packet{tcp(""), tcp("hello"), tcp(text(320)), udp(text(128)), withTag(udp(""), 3), {}, udp(text(129))} {
		for cut := -1; cut <= 102; cut++ {
			if _, _, ok := checkSend(t, txMaps(), m, 1, txQueue(), p, 1+cut&127, cut); ok {
				sent++
			}
		}
		for _, size := range []int{-1, 0, 1, 2, 127, 128, 129} {
			checkSend(t, txMaps(), m, 1, txQueue(), p, size, 100)
		}
		for _, n := range far {
			checkSend(t, txMaps(), m, 1, txQueue(), p, n, 100)
			checkSend(t, txMaps(), m, 1, txQueue(), p, 100, n)
		}
	}
	if sent < 300 {
		t.Errorf("only %d packets were sent", sent)
	}
	if _, q, ok := checkSend(t, txMaps(), m, 1, txQueue(), tcp("hello"), 100, 59); !ok || q.Next != 0 || q.Waiting[2].Cookie != 65535 || q.Waiting[2].Slots != 3 {
		t.Errorf("a small packet: got %+v, %v", q, ok)
	}
}

func TestSendPacketRefuses(t *testing.T) {
	m, p := memory(12), tcp("hello")
	refuse := func(name string, list []impl.Mapping, m impl.Memory, domain int, q impl.TxQueue) {
		t.Helper()
		if after, next, ok := impl.SendPacket(list, m, domain, q, p, 100, 40); ok || !sameTx(next, q) || !sameMemory(after, m) {
			t.Errorf("%s: got %+v, %v", name, next, ok)
		}
		checkPure(t, impl.SendPacket, list, m, domain, q, p, 100, 40)
	}
	for _, q := range badTx() {
		refuse("an invalid queue", txMaps(), m, 1, q)
	}
	few := txQueue()
	few.Pool.Free = few.Pool.Free[:1]
	refuse("too few buffers", txMaps(), m, 1, few)
	full := txQueue()
	full.Ring.Tail = 12
	refuse("too few slots in the ring", txMaps(), m, 1, full)
	waiting := txQueue()
	waiting.Waiting[0].Slots = 12
	refuse("too many slots in Waiting", txMaps(), m, 1, waiting)
	refuse("another domain", txMaps(), m, 2, txQueue())
	refuse("no such memory", txMaps(), memory(5), 1, txQueue())
	refuse("invalid mappings", append(txMaps(), impl.Mapping{Physical: 64}), m, 1, txQueue())
	refuse("a page mapped twice", append(txMaps(), txMaps()[0]), m, 1, txQueue())
	bad := memory(12)
	bad.Pages[11] = ""
	refuse("an invalid memory", txMaps(), bad, 1, txQueue())
	closed := txMaps()
	closed[0].Writable = false
	refuse("a ring that is read only", closed, m, 1, txQueue())
	// With what is missing above, the packet is sent.
	few.Pool.Free = []int{6, 0, 5}
	full.Ring.Tail = 11
	waiting.Waiting[0].Slots = 11
	for i, q := range []impl.TxQueue{few, full, waiting} {
		q.Pool.Size = 40
		if _, _, ok := checkSend(t, txMaps(), m, 1, q, p, 100, 30); !ok {
			t.Errorf("queue %d: the packet is not sent", i)
		}
	}
}

func TestSendPacketOfManyPieces(t *testing.T) {
	// Fifteen pieces and the context fill the largest ring; sixteen pieces do not fit.
	q := impl.TxQueue{Ring: impl.Ring{Size: 16, Head: 5, Tail: 5}}
	q.Pool, _ = impl.NewPool(512, 100, 16)
	for n := range 120 {
		p := tcp(text(n))
		s, _ := impl.Template(p)
		for cut := 4; cut <= 8; cut++ {
			_, next, ok := checkSend(t, identity(0, 20), memory(20), 0, q, p, 1, cut)
			if pieces := (len(s) + cut - 1) / cut; ok != (pieces <= 15) || ok && impl.RingUsed(next.Ring) != pieces+1 {
				t.Errorf("%d pieces: got %+v, %v", pieces, next, ok)
			}
		}
	}
}

func TestCompletePackets(t *testing.T) {
	q := txQueue()
	for n := range 3 {
		want := q
		var cookies []int
		for _, x := range q.Waiting[:n] {
			want.Pool.Free = slices.Concat(want.Pool.Free, x.Buffers)
			cookies = append(cookies, x.Cookie)
		}
		want.Waiting = q.Waiting[n:]
		got, done := impl.CompletePackets(q, n)
		if !sameTx(got, want) || !slices.Equal(done, cookies) || !impl.TxOk(got) {
			t.Errorf("completing %d: got %+v, %v", n, got, done)
		}
		checkPure(t, impl.CompletePackets, q, n)
	}
	for _, n := range append([]int{-1, 3, 4}, far...) {
		if got, done := impl.CompletePackets(q, n); !sameTx(got, q) || done != nil {
			t.Errorf("completing %d: got %+v, %v", n, got, done)
		}
		checkPure(t, impl.CompletePackets, q, n)
	}
	for i, bad := range badTx() {
		for n := range 2 {
			if got, done := impl.CompletePackets(bad, n); !sameTx(got, bad) || done != nil {
				t.Errorf("the invalid queue %d: got %+v, %v", i, got, done)
			}
			checkPure(t, impl.CompletePackets, bad, n)
		}
	}
}

func TestSendAndComplete(t *testing.T) {
	for seed := range uint64(40) {
		r := newRandom(seed)
		m := memory(12)
		q := txQueue()
		var cookies []int
		for _, x := range q.Waiting {
			cookies = append(cookies, x.Cookie)
		}
		for range 60 {
			if r.UintN(2) == 0 {
				cookie := q.Next
				after, next, ok := checkSend(t, txMaps(), m, 1, q, tcp(randomText(r, int(r.UintN(200)))), 1+int(r.UintN(128)), 1+int(r.UintN(100)))
				if ok {
					cookies = append(cookies, cookie)
				}
				m, q = after, next
				// The device takes what was put.
				q.Ring.Head = q.Ring.Tail
				continue
			}
			n := int(r.UintN(3))
			rest, done := impl.CompletePackets(q, n)
			if n > len(cookies) {
				n = 0
			}
			if !slices.Equal(done, cookies[:n]) {
				t.Fatalf("seed %d: %v are completed, not %v", seed, done, cookies[:n])
			}
			q, cookies = rest, cookies[n:]
			if !impl.TxOk(q) {
				t.Fatalf("seed %d: %+v is not valid", seed, q)
			}
		}
	}
	checkPure(t, impl.SendPacket, txMaps(), memory(12), 1, txQueue(), tcp("hello"), 100, 40)
}
