package tests

import (
	"slices"
	"testing"

	"loop.example/g03312/impl"
)

// rule is a rule for datagrams of one network, to some ports and with one tag.
func rule() impl.Rule {
	return impl.Rule{Priority: 5, Kind: impl.KindUdp, SrcIp: 0x0a000000, SrcBits: 8, FirstPort: 50, LastPort: 60, Vlan: 7, Action: impl.RuleQueue, Queue: 2}
}

// anything is a rule that matches every packet.
func anything(priority int) impl.Rule {
	return impl.Rule{Priority: priority, LastPort: most16, Vlan: -2}
}

func TestRuleConstants(t *testing.T) {
	if impl.MaxRules != 12 || impl.RuleQueue != 0 || impl.RuleDrop != 1 {
		t.Error("other constants", impl.MaxRules, impl.RuleQueue, impl.RuleDrop)
	}
}

func TestRuleOk(t *testing.T) {
	fields := []field[impl.Rule]{
		{"Priority", 0, 1000, func(r *impl.Rule, n int) { r.Priority = n }},
		{"SrcIp", 0, most32, func(r *impl.Rule, n int) { r.SrcIp = n }},
		{"SrcBits", 0, 32, func(r *impl.Rule, n int) { r.SrcBits = n }},
		{"FirstPort", 0, 60, func(r *impl.Rule, n int) { r.FirstPort = n }},
		{"LastPort", 50, most16, func(r *impl.Rule, n int) { r.LastPort = n }},
		{"both ports", 0, most16, func(r *impl.Rule, n int) { r.FirstPort, r.LastPort = n, n }},
		{"Vlan", -2, 4095, func(r *impl.Rule, n int) { r.Vlan = n }},
		{"Action", 0, 0, func(r *impl.Rule, n int) { r.Action = n }},
		{"Queue", 0, 3, func(r *impl.Rule, n int) { r.Queue = n }},
	}
	checkFields(t, rule(), fields, impl.RuleOk)
	drop := rule()
	drop.Action, drop.Queue = impl.RuleDrop, 0
	fields[7].high = 1
	fields[8].high = 0
	checkFields(t, drop, fields, impl.RuleOk)
	for kind := -20; kind <= 40; kind++ {
		r := rule()
		r.Kind = kind
		if got := impl.RuleOk(r); got != (kind == 0 || kind == 6 || kind == 17) {
			t.Errorf("the kind %d: got %v", kind, got)
		}
	}
	if !impl.RuleOk(anything(0)) || !impl.RuleOk(impl.Rule{}) {
		t.Error("a rule with wildcards is refused")
	}
}

func TestRulesOk(t *testing.T) {
	for n := range 16 {
		list := slices.Repeat([]impl.Rule{rule()}, n)
		if got := impl.RulesOk(list); got != (n <= 12) {
			t.Errorf("%d rules: got %v", n, got)
		}
		for i := range list {
			bad := slices.Clone(list)
			bad[i].Priority = 1001
			if impl.RulesOk(bad) {
				t.Errorf("%d rules with a bad one at %d are accepted", n, i)
			}
		}
	}
	if !impl.RulesOk(nil) {
		t.Error("no rules are refused")
	}
}

// ruled is a packet that rule matches.
func ruled() impl.Packet {
	p := udp("hello")
	p.Vlan, p.SrcIp, p.Seg.DstPort = 7, 0x0a010203, 53
	return p
}

func checkMatch(t *testing.T, name string, r impl.Rule, p impl.Packet, want bool) {
	t.Helper()
	if got := impl.RuleMatches(r, p); got != want {
		t.Errorf("%s: RuleMatches of %+v and %+v is %v", name, r, p, got)
	}
	at := -1
	if want {
		at = 0
	}
	if got := impl.FindRule([]impl.Rule{r}, p); got != at {
		t.Errorf("%s: FindRule of %+v is %d", name, p, got)
	}
}

func TestRuleMatches(t *testing.T) {
	for _, kind := range []int{0, impl.KindTcp, impl.KindUdp} {
		r := rule()
		r.Kind = kind
		p := ruled()
		checkMatch(t, "a datagram", r, p, kind != impl.KindTcp)
		p.Seg.Kind = impl.KindTcp
		checkMatch(t, "a segment", r, p, kind != impl.KindUdp)
	}
	for port := range 100 {
		p := ruled()
		p.Seg.DstPort = port
		checkMatch(t, "a port", rule(), p, port >= 50 && port <= 60)
		p = ruled()
		p.Seg.SrcPort = port
		checkMatch(t, "a port of the sender", rule(), p, true)
		one := rule()
		one.FirstPort, one.LastPort = port, port
		checkMatch(t, "one port", one, ruled(), port == 53)
	}
	for vlan := -1; vlan <= 9; vlan++ {
		p := ruled()
		p.Vlan = vlan
		checkMatch(t, "a tag", rule(), p, vlan == 7)
		r := rule()
		r.Vlan = -2
		checkMatch(t, "any tag", r, p, true)
		r.Vlan = -1
		checkMatch(t, "no tag", r, p, vlan == -1)
		r.Vlan = vlan
		checkMatch(t, "the same tag", r, p, true)
	}
	drop := rule()
	drop.Action, drop.Queue = impl.RuleDrop, 0
	checkMatch(t, "a rule that drops", drop, ruled(), true)
	everything := anything(0)
	for _, p := range []impl.Packet{ruled(), tcp(""), tcp(text(320)), udp(text(128))} {
		checkMatch(t, "a rule for all packets", everything, p, true)
	}
}

func TestRuleMatchesAddresses(t *testing.T) {
	for bits := 0; bits <= 32; bits++ {
		for flipped := range 32 {
			for _, address := range []int{0, 0x0a010203, most32} {
				r, p := rule(), ruled()
				r.SrcIp, r.SrcBits, p.SrcIp = address, bits, address^(1<<(31-flipped))
				checkMatch(t, impl.FormatInt(bits)+" bits and another bit "+impl.FormatInt(flipped), r, p, flipped >= bits)
				p.SrcIp = address
				checkMatch(t, "the same address", r, p, true)
				// The other address does not matter.
				p.DstIp ^= 1 << flipped
				checkMatch(t, "another receiver", r, p, true)
			}
		}
	}
}

func TestRuleMatchesRefuses(t *testing.T) {
	bad := anything(0)
	bad.Queue = 4
	backwards := anything(0)
	backwards.FirstPort, backwards.LastPort = 60, 50
	for _, r := range []impl.Rule{bad, backwards, {SrcBits: 33, LastPort: 100, Vlan: -2}, {SrcBits: -1, LastPort: 100, Vlan: -2}, {Kind: 1, LastPort: 100, Vlan: -2}} {
		checkMatch(t, "an invalid rule", r, ruled(), false)
	}
	long := udp(text(129))
	tagged := ruled()
	tagged.Vlan = 4096
	other := ruled()
	other.Seg.Kind = 0
	for _, p := range []impl.Packet{long, tagged, other, {}, tcp(text(321))} {
		checkMatch(t, "an invalid packet", anything(0), p, false)
	}
}

func TestFindRule(t *testing.T) {
	low, high := anything(10), anything(20)
	never := rule()
	never.Priority, never.Vlan = 1, 8
	p := ruled()
	cases := []struct {
		list []impl.Rule
		want int
	}{
		{nil, -1}, {[]impl.Rule{never}, -1}, {[]impl.Rule{low}, 0}, {[]impl.Rule{never, high}, 1},
		{[]impl.Rule{high, low}, 1}, {[]impl.Rule{low, high}, 0}, {[]impl.Rule{low, low}, 0}, {[]impl.Rule{high, low, low}, 1},
		{[]impl.Rule{never, high, never, low, high, low}, 3}, {[]impl.Rule{high, rule()}, 1}, {[]impl.Rule{rule(), anything(4), anything(5)}, 1},
		{[]impl.Rule{anything(0), anything(0)}, 0}, {[]impl.Rule{anything(1000), anything(999)}, 1},
	}
	for _, c := range cases {
		if got := impl.FindRule(c.list, p); got != c.want {
			t.Errorf("FindRule in %+v: got %d, want %d", c.list, got, c.want)
		}
	}
	twelve := slices.Repeat([]impl.Rule{low}, 12)
	if impl.FindRule(twelve, p) != 0 || impl.FindRule(append(twelve, low), p) != -1 {
		t.Error("twelve rules are refused, or thirteen are not")
	}
	bad := low
	bad.Priority = -1
	for _, list := range [][]impl.Rule{{bad}, {low, bad}, {bad, low}} {
		if got := impl.FindRule(list, p); got != -1 {
			t.Errorf("FindRule in %+v: got %d", list, got)
		}
	}
	if got := impl.FindRule([]impl.Rule{low}, impl.Packet{}); got != -1 {
		t.Errorf("FindRule of the zero packet: got %d", got)
	}
}

func TestRuleCovers(t *testing.T) {
	narrow := rule()
	wider := []func(*impl.Rule){
		func(r *impl.Rule) { r.Kind = 0 }, func(r *impl.Rule) { r.SrcBits = 7 }, func(r *impl.Rule) { r.SrcBits = 0 },
		func(r *impl.Rule) { r.FirstPort = 49 }, func(r *impl.Rule) { r.LastPort = 61 }, func(r *impl.Rule) { r.Vlan = -2 },
	}
	for i, change := range wider {
		wide := narrow
		change(&wide)
		if !impl.RuleCovers(wide, narrow) || impl.RuleCovers(narrow, wide) {
			t.Errorf("the wider rule %d does not cover, or is covered", i)
		}
	}
	apart := []func(*impl.Rule){
		func(r *impl.Rule) { r.Kind = impl.KindTcp }, func(r *impl.Rule) { r.SrcIp ^= 1 << 24 },
		func(r *impl.Rule) { r.FirstPort, r.LastPort = 49, 59 }, func(r *impl.Rule) { r.Vlan = -1 }, func(r *impl.Rule) { r.Vlan = 8 },
	}
	for i, change := range apart {
		other := narrow
		change(&other)
		if impl.RuleCovers(other, narrow) || impl.RuleCovers(narrow, other) {
			t.Errorf("the other rule %d covers, or is covered", i)
		}
	}
	same := []func(*impl.Rule){
		func(r *impl.Rule) {}, func(r *impl.Rule) { r.Priority = 0 }, func(r *impl.Rule) { r.Priority = 1000 },
		func(r *impl.Rule) { r.SrcIp++ }, func(r *impl.Rule) { r.Queue = 0 }, func(r *impl.Rule) { r.Action, r.Queue = impl.RuleDrop, 0 },
	}
	for i, change := range same {
		other := narrow
		change(&other)
		if !impl.RuleCovers(other, narrow) || !impl.RuleCovers(narrow, other) {
			t.Errorf("the rule %d for the same packets does not cover, or is not covered", i)
		}
	}
	invalid := []func(*impl.Rule){
		func(r *impl.Rule) { r.Priority = -1 }, func(r *impl.Rule) { r.SrcBits = 33 }, func(r *impl.Rule) { r.SrcBits = -1 },
		func(r *impl.Rule) { r.Queue = 4 }, func(r *impl.Rule) { r.FirstPort, r.LastPort = 1, 0 },
	}
	for i, change := range invalid {
		bad := anything(0)
		change(&bad)
		if impl.RuleCovers(bad, narrow) || impl.RuleCovers(bad, bad) || impl.RuleCovers(anything(0), bad) {
			t.Errorf("the invalid rule %d covers or is covered", i)
		}
	}
}

// randomRule is a rule of which there are so few that many cover one another.
func randomRule(seed uint64) impl.Rule {
	r := newRandom(seed)
	rule := impl.Rule{
		Priority: int(r.UintN(3)), Kind: []int{0, impl.KindTcp, impl.KindUdp}[r.UintN(3)], SrcIp: int(r.UintN(4)) << 30,
		SrcBits: int(r.UintN(4)), FirstPort: int(r.UintN(3)), Vlan: int(r.UintN(4)) - 2, Queue: int(r.UintN(4)),
	}
	rule.LastPort = rule.FirstPort + int(r.UintN(3))
	if r.UintN(3) == 0 {
		rule.Action, rule.Queue = impl.RuleDrop, 0
	}
	return rule
}

// smallPackets are packets that the random rules tell apart.
func smallPackets() []impl.Packet {
	var list []impl.Packet
	for k := range 4 * 6 * 3 {
		for _, p := range []impl.Packet{tcp("a"), udp("a")} {
			p.SrcIp, p.Seg.DstPort, p.Vlan = k%4<<30, k/4%6, k/24-1
			list = append(list, p)
		}
	}
	return list
}

func TestHiddenRulesNeverDecide(t *testing.T) {
	packets := smallPackets()
	hidden := 0
	for seed := range uint64(300) {
		var list []impl.Rule
		for k := range 1 + seed%12 {
			list = append(list, randomRule(seed*100+k))
		}
		kept := impl.Effective(list)
		hidden += len(list) - len(kept)
		if !slices.IsSorted(kept) {
			t.Fatalf("the indices %v are not in order", kept)
		}
		var effective []impl.Rule
		for _, i := range kept {
			effective = append(effective, list[i])
		}
		for _, p := range packets {
			at := impl.FindRule(list, p)
			if got, want := at, firstMatch(list, p); got != want {
				t.Fatalf("rule %d of %+v is found for %+v, not %d", got, list, p, want)
			}
			if at >= 0 && !slices.Contains(kept, at) {
				t.Fatalf("rule %d of %+v decides, but it is hidden", at, list)
			}
			again := impl.FindRule(effective, p)
			if (at < 0) != (again < 0) || at >= 0 && kept[again] != at {
				t.Fatalf("without the hidden rules of %+v, rule %d decides and not %d", list, again, at)
			}
		}
	}
	if hidden < 100 {
		t.Errorf("only %d rules were hidden", hidden)
	}
}

// firstMatch is FindRule for valid rules: the first one in the order of priorities and indices.
func firstMatch(list []impl.Rule, p impl.Packet) int {
	for priority := range 1001 {
		for i, r := range list {
			if r.Priority == priority && impl.RuleMatches(r, p) {
				return i
			}
		}
	}
	return -1
}

func TestEffective(t *testing.T) {
	drop := rule()
	drop.Priority, drop.Action, drop.Queue = 6, impl.RuleDrop, 0
	cases := []struct {
		list []impl.Rule
		want []int
	}{
		{nil, nil}, {[]impl.Rule{rule()}, []int{0}}, {[]impl.Rule{rule(), rule()}, []int{0}},
		{[]impl.Rule{rule(), anything(5)}, []int{0, 1}}, {[]impl.Rule{anything(5), rule()}, []int{0}},
		{[]impl.Rule{rule(), anything(4)}, []int{1}}, {[]impl.Rule{rule(), anything(6)}, []int{0, 1}},
		{[]impl.Rule{anything(6), rule()}, []int{0, 1}}, {[]impl.Rule{drop, rule()}, []int{1}},
		// A rule that is hidden itself hides others too.
		{[]impl.Rule{anything(9), drop, rule(), drop, anything(9)}, []int{0, 2}},
	}
	for _, c := range cases {
		if got := impl.Effective(c.list); !slices.Equal(got, c.want) {
			t.Errorf("Effective of %+v: got %v, want %v", c.list, got, c.want)
		}
	}
	bad := rule()
	bad.Vlan = -3
	for _, list := range [][]impl.Rule{{bad}, {rule(), bad}, slices.Repeat([]impl.Rule{rule()}, 13)} {
		if got := impl.Effective(list); got != nil {
			t.Errorf("Effective of invalid rules: got %v", got)
		}
	}
	if got := impl.Effective(slices.Repeat([]impl.Rule{rule()}, 12)); !slices.Equal(got, []int{0}) {
		t.Errorf("Effective of twelve rules: got %v", got)
	}
	list := []impl.Rule{rule(), anything(4), drop}
	checkPure(t, impl.Effective, list)
	checkPure(t, impl.FindRule, list, ruled())
	checkPure(t, impl.RulesOk, list)
}
