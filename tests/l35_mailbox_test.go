package tests

import (
	"slices"
	"testing"

	"loop.example/g03312/impl"
)

// box is a mailbox that has performed commands.
func box() impl.Mailbox {
	return impl.Mailbox{Filter: impl.Filter{Mac: 70, Promiscuous: true, Vlans: []int{3, 5, 9}}, Last: 41, Answer: 13, Done: 17}
}

// badBoxes are mailboxes that are not valid.
func badBoxes() []impl.Mailbox {
	list := []impl.Mailbox{{Last: -1}, {Last: 1000000000001}, {Done: -1}, {Done: 1000000000001}}
	for _, f := range badFilters() {
		list = append(list, impl.Mailbox{Filter: f, Last: 41})
	}
	return list
}

func TestMailboxOk(t *testing.T) {
	if impl.MailSetMac != 1 || impl.MailAddVlan != 2 || impl.MailDropVlan != 3 || impl.MailAsk != 4 {
		t.Error("other constants")
	}
	fields := []field[impl.Mailbox]{
		{"Last", 0, 1000000000000, func(b *impl.Mailbox, n int) { b.Last = n }}, {"Done", 0, 1000000000000, func(b *impl.Mailbox, n int) { b.Done = n }},
		{"Mac", 0, most48 - 1, func(b *impl.Mailbox, n int) { b.Filter.Mac = n }},
	}
	checkFields(t, box(), fields, impl.MailboxOk)
	for _, n := range far {
		b := box()
		b.Answer = n
		if !impl.MailboxOk(b) {
			t.Errorf("the answer %d is refused", n)
		}
	}
	for i, b := range badBoxes() {
		if impl.MailboxOk(b) {
			t.Errorf("the invalid mailbox %d is accepted", i)
		}
	}
	checkPure(t, impl.MailboxOk, box())
}

// handleModel is HandleMessage as the document says it.
func handleModel(b impl.Mailbox, x impl.Message) (impl.Mailbox, int) {
	if !impl.MailboxOk(b) {
		return b, -1
	}
	if x.Seq == b.Last {
		return b, b.Answer
	}
	if x.Seq != b.Last+1 {
		return b, -1
	}
	f, ok := b.Filter, false
	switch x.Op {
	case 1:
		f.Mac = x.Arg
		ok = impl.FilterOk(f)
	case 2:
		f, ok = impl.AddVlan(f, x.Arg)
	case 3:
		f, ok = impl.DropVlan(f, x.Arg)
	}
	b.Answer = 0
	if ok {
		b.Filter, b.Answer = f, 1
	}
	if x.Op == 4 {
		b.Answer = b.Filter.Mac
	}
	b.Last, b.Done = x.Seq, b.Done+1
	return b, b.Answer
}

func checkHandle(t *testing.T, b impl.Mailbox, x impl.Message) (impl.Mailbox, int) {
	t.Helper()
	want, wantAnswer := handleModel(b, x)
	got, answer := impl.HandleMessage(b, x)
	if !same(got, want) || answer != wantAnswer {
		t.Errorf("%+v to %+v: got %+v, %d, want %+v, %d", x, b, got, answer, want, wantAnswer)
	}
	return got, answer
}

func TestHandleMessage(t *testing.T) {
	full := box()
	full.Filter.Vlans = []int{0, 1, 2, 3, 4, 5, 6, 7}
	last := box()
	last.Last, last.Done = 1000000000000, 1000000000000
	for _, b := range append(badBoxes(), box(), full, last, impl.Mailbox{}) {
		for _, seq := range append([]int{-1, 0, 1, 40, 41, 42, 43, 1000000000000, 1000000000001, 1000000000002}, far...) {
			for op := -1; op <= 6; op++ {
				for _, arg := range append([]int{-1, 0, 3, 4, 5, 8, 9, 70, 4095, 4096, most48 - 1, most48}, far...) {
					checkHandle(t, b, impl.Message{Seq: seq, Op: op, Arg: arg})
				}
			}
		}
		checkPure(t, impl.HandleMessage, b, impl.Message{Seq: 42, Op: 2, Arg: 4})
		checkPure(t, impl.HandleMessage, b, impl.Message{Seq: 41, Op: 2, Arg: 4})
	}
	cases := []struct {
		name   string
		x      impl.Message
		filter impl.Filter
		answer int
	}{
		{"another Mac", impl.Message{Seq: 42, Op: 1, Arg: 99}, impl.Filter{Mac: 99, Promiscuous: true, Vlans: []int{3, 5, 9}}, 1},
		{"the Mac of all", impl.Message{Seq: 42, Op: 1, Arg: most48}, box().Filter, 0},
		{"another VLAN", impl.Message{Seq: 42, Op: 2, Arg: 4}, impl.Filter{Mac: 70, Promiscuous: true, Vlans: []int{3, 4, 5, 9}}, 1},
		{"a VLAN that is there", impl.Message{Seq: 42, Op: 2, Arg: 5}, box().Filter, 0}, {"a VLAN less", impl.Message{Seq: 42, Op: 3, Arg: 5}, impl.Filter{Mac: 70, Promiscuous: true, Vlans: []int{3, 9}}, 1},
		{"a VLAN that is not there", impl.Message{Seq: 42, Op: 3, Arg: 4}, box().Filter, 0}, {"a question", impl.Message{Seq: 42, Op: 4, Arg: 5}, box().Filter, 70},
		{"another operation", impl.Message{Seq: 42, Op: 5, Arg: 5}, box().Filter, 0}, {"the operation 0", impl.Message{Seq: 42}, box().Filter, 0},
	}
	for _, c := range cases {
		want := impl.Mailbox{Filter: c.filter, Last: 42, Answer: c.answer, Done: 18}
		got, answer := impl.HandleMessage(box(), c.x)
		if !same(got, want) || answer != c.answer {
			t.Errorf("%s: got %+v, %d", c.name, got, answer)
		}
		// The same message again changes nothing and has the same answer.
		if again, answer := impl.HandleMessage(got, c.x); !same(again, got) || answer != c.answer {
			t.Errorf("%s, again: got %+v, %d", c.name, again, answer)
		}
	}
	for _, seq := range []int{40, 43, 0, -1} {
		if got, answer := impl.HandleMessage(box(), impl.Message{Seq: seq, Op: 1, Arg: 5}); !same(got, box()) || answer != -1 {
			t.Errorf("the Seq %d: got %+v, %d", seq, got, answer)
		}
	}
}

// commandsModel is SendCommands as the document says it.
func commandsModel(b impl.Mailbox, list []impl.Message, lost []bool) (impl.Mailbox, []int) {
	if !impl.MailboxOk(b) || len(list) > 100 || len(lost) > 1000 {
		return b, nil
	}
	at, first := 0, b.Last+1
	next := func() bool {
		at++
		return at <= len(lost) && lost[at-1]
	}
	var answers []int
	for i, x := range list {
		x.Seq = first + i
		for arrived := false; !arrived; {
			if next() {
				continue
			}
			answer := 0
			b, answer = handleModel(b, x)
			if arrived = !next(); arrived {
				answers = append(answers, answer)
			}
		}
	}
	return b, answers
}

// randomCommands are commands of all sorts.
func randomCommands(seed uint64, n int) []impl.Message {
	r := newRandom(seed)
	var list []impl.Message
	for range n {
		list = append(list, impl.Message{Seq: int(r.UintN(5)), Op: int(r.UintN(6)), Arg: int(r.UintN(12)) - 1})
	}
	return list
}

func TestSendCommands(t *testing.T) {
	set := impl.Message{Op: 1, Arg: 9}
	ask := impl.Message{Op: 4}
	add := impl.Message{Seq: 7, Op: 2, Arg: 8}
	cases := []struct {
		list    []impl.Message
		lost    []bool
		answers []int
	}{
		{nil, nil, nil}, {nil, []bool{true}, nil}, {[]impl.Message{set, ask}, nil, []int{1, 9}}, {[]impl.Message{add, add}, []bool{false, false, true, true}, []int{1, 0}},
		// The answer to the first command is lost, so that it is handled again, but performed once.
		{[]impl.Message{add, ask}, []bool{false, true}, []int{1, 70}}, {[]impl.Message{add}, []bool{true, true, false, true, true, false, true}, []int{1}},
	}
	for _, c := range cases {
		got, answers := impl.SendCommands(box(), c.list, c.lost)
		if !slices.Equal(answers, c.answers) || got.Done != 17+len(c.list) || got.Last != 41+len(c.list) {
			t.Errorf("%+v, %v: got %+v, %v", c.list, c.lost, got, answers)
		}
		checkPure(t, impl.SendCommands, box(), c.list, c.lost)
	}
	last := box()
	last.Last, last.Done = 999999999999, 5
	for seed := range uint64(200) {
		r := newRandom(seed)
		list := randomCommands(seed, int(r.UintN(101)))
		var lost []bool
		for range r.UintN(400) {
			lost = append(lost, r.UintN(3) > 0)
		}
		for _, b := range []impl.Mailbox{box(), {}, last, badBoxes()[int(seed)%len(badBoxes())]} {
			want, wantAnswers := commandsModel(b, list, lost)
			got, answers := impl.SendCommands(b, list, lost)
			if !same(got, want) || !slices.Equal(answers, wantAnswers) {
				t.Errorf("seed %d: got %+v, %v, want %+v, %v", seed, got, answers, want, wantAnswers)
			}
		}
	}
}

func TestSendCommandsRefuses(t *testing.T) {
	list := randomCommands(35, 101)
	lost := slices.Repeat([]bool{true}, 1001)
	if got, answers := impl.SendCommands(box(), list, nil); !same(got, box()) || answers != nil {
		t.Errorf("101 commands: got %+v, %v", got, answers)
	}
	if got, answers := impl.SendCommands(box(), list[:1], lost); !same(got, box()) || answers != nil {
		t.Errorf("1001 losses: got %+v, %v", got, answers)
	}
	if got, answers := impl.SendCommands(box(), list[:100], lost[:1000]); got.Done != 117 || len(answers) != 100 {
		t.Errorf("100 commands and 1000 losses: got %+v, %v", got, answers)
	}
	for i, b := range badBoxes() {
		if got, answers := impl.SendCommands(b, list[:2], lost[:2]); !same(got, b) || answers != nil {
			t.Errorf("the invalid mailbox %d: got %+v, %v", i, got, answers)
		}
		checkPure(t, impl.SendCommands, b, list[:2], lost[:2])
	}
	checkPure(t, impl.SendCommands, box(), list, lost)
}

func TestCommandsArePerformedExactlyOnce(t *testing.T) {
	for seed := range uint64(100) {
		r := newRandom(seed)
		list := randomCommands(seed, 40)
		var lost []bool
		for range r.UintN(1001) {
			lost = append(lost, r.UintN(4) > 0)
		}
		want, wantAnswers := impl.SendCommands(box(), list, nil)
		got, answers := impl.SendCommands(box(), list, lost)
		if !same(got, want) || !slices.Equal(answers, wantAnswers) || got.Done != box().Done+40 {
			t.Errorf("seed %d: with losses %+v, %v, without %+v, %v", seed, got, answers, want, wantAnswers)
		}
		// One by one, the commands have the same answers.
		b := box()
		for i, x := range list {
			x.Seq = b.Last + 1
			next, answer := impl.HandleMessage(b, x)
			if answer != answers[i] {
				t.Errorf("seed %d: command %d has the answer %d, not %d", seed, i, answers[i], answer)
			}
			b = next
		}
		if !same(b, got) {
			t.Errorf("seed %d: one by one the commands give %+v, not %+v", seed, b, got)
		}
	}
}
