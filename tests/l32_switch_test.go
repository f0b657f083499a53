package tests

import (
	"slices"
	"testing"

	"loop.example/g03312/impl"
)

// ports are the uplink, an open port in two VLANs, a strict one, one in a VLAN of its own, and one more in all of them.
func ports() []impl.Port {
	return []impl.Port{
		{Mac: 21, Vlans: []int{0, 1, 7}, Native: 1, Strict: true}, {Mac: 21, Vlans: []int{1, 7}, Native: 7},
		{Mac: 22, Vlans: []int{1, 9}, Native: 1, Strict: true}, {Mac: 23, Vlans: []int{4095}, Native: 4095}, {Mac: 0, Vlans: []int{0, 1, 7, 9, 4095}, Native: 0, Strict: true},
	}
}

// badPorts are lists of ports that are not valid.
func badPorts() [][]impl.Port {
	changes := []func([]impl.Port){
		func(list []impl.Port) { list[1].Mac = 22 }, func(list []impl.Port) { list[4].Mac = 21 }, func(list []impl.Port) { list[0].Mac = -1 },
		func(list []impl.Port) { list[2].Mac = most48 }, func(list []impl.Port) { list[0].Native = 9 }, func(list []impl.Port) { list[4].Native = 2 },
		func(list []impl.Port) { list[3].Vlans = nil }, func(list []impl.Port) { list[0].Vlans = []int{1, 0, 7} }, func(list []impl.Port) { list[1].Vlans = []int{7, 7} },
		func(list []impl.Port) { list[3].Vlans, list[3].Native = []int{4096}, 4096 }, func(list []impl.Port) { list[3].Vlans, list[3].Native = []int{-1}, -1 },
		func(list []impl.Port) { list[3].Vlans, list[3].Native = []int{0, 1, 2, 3, 4, 5, 6, 7, 8}, 0 },
	}
	list := [][]impl.Port{nil}
	for _, change := range changes {
		p := copyOf(ports())
		change(p)
		list = append(list, p)
	}
	return append(list, manyPorts(9))
}

// manyPorts are as many ports in one VLAN.
func manyPorts(n int) []impl.Port {
	var list []impl.Port
	for k := range n {
		list = append(list, impl.Port{Mac: k, Vlans: []int{3}, Native: 3})
	}
	return list
}

func TestPortsOk(t *testing.T) {
	if impl.MaxPorts != 8 || impl.Uplink != 0 {
		t.Error("other constants", impl.MaxPorts, impl.Uplink)
	}
	set := func(change func(*impl.Port, int)) func(*[]impl.Port, int) {
		return func(list *[]impl.Port, n int) {
			*list = copyOf(*list)
			change(&(*list)[0], n)
		}
	}
	fields := []field[[]impl.Port]{
		{"Mac", 0, most48 - 1, set(func(p *impl.Port, n int) { p.Mac = n })},
		{"the only VLAN", 0, 4095, set(func(p *impl.Port, n int) { p.Vlans, p.Native = []int{n}, n })},
		{"the first VLAN", 0, 4, set(func(p *impl.Port, n int) { p.Vlans, p.Native = []int{n, 5, 9}, 5 })},
		{"the last VLAN", 6, 4095, set(func(p *impl.Port, n int) { p.Vlans, p.Native = []int{3, 5, n}, n })},
		{"Native", 1, 1, set(func(p *impl.Port, n int) { p.Vlans, p.Native = []int{1}, n })},
	}
	checkFields(t, ports(), fields, impl.PortsOk)
	checkFields(t, ports()[1:], fields, impl.PortsOk)
	checkFields(t, ports()[2:3], fields, impl.PortsOk)
	for n := range 12 {
		if got := impl.PortsOk(manyPorts(n)); got != (n >= 1 && n <= 8) {
			t.Errorf("%d ports: got %v", n, got)
		}
		for k := range min(n, 8) {
			// Only the uplink may have the Mac of another port.
			list := manyPorts(min(n, 8))
			list[k].Mac = len(list) - 1
			if got := impl.PortsOk(list); got != (k == 0 || k == len(list)-1) {
				t.Errorf("port %d of %d has the Mac of the last one: got %v", k, len(list), got)
			}
		}
	}
	for i, list := range badPorts() {
		if impl.PortsOk(list) {
			t.Errorf("the invalid ports %d are accepted", i)
		}
	}
	checkPure(t, impl.PortsOk, ports())
}

// entryModel is EntryVlan as the document says it.
func entryModel(list []impl.Port, from int, p impl.Packet) int {
	if !impl.PortsOk(list) || !impl.SuperOk(p) || from < 0 || from >= len(list) {
		return -1
	}
	vlan := p.Vlan
	if vlan == -1 {
		vlan = list[from].Native
	}
	if !slices.Contains(list[from].Vlans, vlan) || from != 0 && list[from].Strict && list[from].Mac != p.SrcMac {
		return -1
	}
	return vlan
}

// switchModel is SwitchPacket as the document says it.
func switchModel(list []impl.Port, from int, p impl.Packet) []int {
	vlan := entryModel(list, from, p)
	if vlan == -1 {
		return nil
	}
	in := func(to int) bool { return to != from && slices.Contains(list[to].Vlans, vlan) }
	var all []int
	for to := range list {
		if in(to) {
			all = append(all, to)
		}
	}
	if p.DstMac == most48 {
		return all
	}
	to := 0
	for k := 1; k < len(list); k++ {
		if list[k].Mac == p.DstMac {
			to = k
		}
	}
	if !in(to) {
		return nil
	}
	return []int{to}
}

// leaveModel is LeavePacket as the document says it.
func leaveModel(list []impl.Port, to int, vlan int, p impl.Packet) impl.Packet {
	if !impl.PortsOk(list) || to < 0 || to >= len(list) || !slices.Contains(list[to].Vlans, vlan) || !impl.SuperOk(p) {
		return impl.Packet{}
	}
	if vlan == list[to].Native {
		return withTag(p, -1)
	}
	return withTag(p, vlan)
}

// switched are packets between all stations and others, in all VLANs and others.
func switched() []impl.Packet {
	list := []impl.Packet{{}, udp(text(129)), tcp(text(320)), flagged(tcp(text(129)), impl.FlagSyn)}
	for _, dst := range []int{0, 20, 21, 22, 23, most48 - 1, most48} {
		for _, src := range []int{0, 21, 22, 23, 5} {
			for _, vlan := range []int{-1, 0, 1, 2, 7, 9, 4095, 4096} {
				p := udp("x")
				p.DstMac, p.SrcMac, p.Vlan = dst, src, vlan
				list = append(list, p)
			}
		}
	}
	return list
}

func TestSwitchPacket(t *testing.T) {
	for _, list := range [][]impl.Port{ports(), ports()[1:], ports()[3:], ports()[:1], {ports()[0], ports()[4]}} {
		for _, from := range append([]int{-1, 0, 1, 2, 3, 4, 5}, far...) {
			for _, p := range switched() {
				want, vlan := switchModel(list, from, p), entryModel(list, from, p)
				if got := impl.EntryVlan(list, from, p); got != vlan {
					t.Errorf("%+v at port %d of %+v: the VLAN is %d, not %d", p, from, list, got, vlan)
				}
				if got := impl.SwitchPacket(list, from, p); !slices.Equal(got, want) {
					t.Errorf("%+v at port %d of %+v: got %v, want %v", p, from, list, got, want)
				}
			}
		}
	}
	for i, list := range badPorts() {
		p := udp("x")
		p.DstMac, p.SrcMac = most48, 0
		for from := range 3 {
			if impl.EntryVlan(list, from, p) != -1 || impl.SwitchPacket(list, from, p) != nil || impl.LeavePacket(list, from, 1, p) != (impl.Packet{}) || impl.DeliverPorts(list, from, []impl.Packet{p}) != nil {
				t.Errorf("the invalid ports %d are used", i)
			}
		}
	}
	checkPure(t, impl.EntryVlan, ports(), 1, udp(""))
	checkPure(t, impl.SwitchPacket, ports(), 1, udp(""))
}

func TestSwitchedWays(t *testing.T) {
	between := func(src int, dst int, vlan int) impl.Packet {
		p := udp("x")
		p.SrcMac, p.DstMac, p.Vlan = src, dst, vlan
		return p
	}
	cases := []struct {
		name string
		from int
		p    impl.Packet
		vlan int
		want []int
	}{
		{"to a station", 2, between(22, 21, -1), 1, []int{1}}, {"to a station in another VLAN", 2, between(22, 21, 9), 9, nil},
		{"to a station beyond the uplink", 2, between(22, 50, -1), 1, []int{0}}, {"the uplink is not in the VLAN", 2, between(22, 50, 9), 9, nil},
		{"to all", 2, between(22, most48, -1), 1, []int{0, 1, 4}}, {"to all in a small VLAN", 2, between(22, most48, 9), 9, []int{4}},
		{"a foreign sender", 2, between(21, most48, -1), -1, nil}, {"a foreign sender at an open port", 1, between(99, most48, -1), 7, []int{0, 4}},
		{"a foreign sender at the uplink", 0, between(99, most48, -1), 1, []int{1, 2, 4}}, {"back to the sender", 1, between(21, 21, -1), 7, nil},
		{"beyond the uplink from there", 0, between(99, 50, -1), 1, nil}, {"the Mac of the uplink is not used", 1, between(21, 0, -1), 7, []int{4}},
		{"a VLAN of the port only", 3, between(23, most48, -1), 4095, []int{4}}, {"a VLAN that the port is not in", 3, between(23, most48, 1), -1, nil},
		{"a tag that is the native VLAN", 1, between(21, 0, 7), 7, []int{4}},
	}
	for _, c := range cases {
		if got := impl.EntryVlan(ports(), c.from, c.p); got != c.vlan {
			t.Errorf("%s: the VLAN is %d", c.name, got)
		}
		if got := impl.SwitchPacket(ports(), c.from, c.p); !slices.Equal(got, c.want) {
			t.Errorf("%s: got %v", c.name, got)
		}
	}
}

func TestLeavePacket(t *testing.T) {
	for _, to := range append([]int{-1, 0, 1, 2, 3, 4, 5}, far...) {
		for _, vlan := range append([]int{-2, -1, 0, 1, 2, 7, 9, 4095, 4096}, far...) {
			for _, p := range switched() {
				if got, want := impl.LeavePacket(ports(), to, vlan, p), leaveModel(ports(), to, vlan, p); got != want {
					t.Errorf("%+v in VLAN %d at port %d: got %+v", p, vlan, to, got)
				}
			}
		}
	}
	checkPure(t, impl.LeavePacket, ports(), 1, 7, udp(""))
}

func TestDeliverPorts(t *testing.T) {
	for _, list := range [][]impl.Port{ports(), ports()[1:], ports()[:1]} {
		for _, from := range append([]int{-1, 0, 1, 2, 3, 4, 5}, far...) {
			want := make([][]impl.Packet, len(list))
			for _, p := range switched() {
				for _, to := range switchModel(list, from, p) {
					want[to] = append(want[to], leaveModel(list, to, entryModel(list, from, p), p))
				}
			}
			if got := impl.DeliverPorts(list, from, switched()); !same(got, want) {
				t.Errorf("at port %d of %d: got %+v", from, len(list), got)
			}
			if got := impl.DeliverPorts(list, from, nil); !same(got, make([][]impl.Packet, len(list))) {
				t.Errorf("nothing at port %d of %d: got %+v", from, len(list), got)
			}
			checkPure(t, impl.DeliverPorts, list, from, switched()[20:90])
		}
	}
}

// randomPorts are valid ports in few VLANs.
func randomPorts(seed uint64) []impl.Port {
	r := newRandom(seed)
	var list []impl.Port
	for k := range 2 + r.UintN(7) {
		x := impl.Port{Mac: 20 + int(k), Strict: r.UintN(2) == 0}
		for vlan := range 4 {
			if r.UintN(2) == 0 {
				x.Vlans = append(x.Vlans, vlan)
			}
		}
		if len(x.Vlans) == 0 {
			x.Vlans = []int{2}
		}
		x.Native = x.Vlans[r.IntN(len(x.Vlans))]
		list = append(list, x)
	}
	return list
}

func TestPacketsStayWithinTheirVlan(t *testing.T) {
	left := 0
	for seed := range uint64(200) {
		list := randomPorts(seed)
		r := newRandom(seed + 5000)
		for range 60 {
			from := r.IntN(len(list))
			p := udp("x")
			p.SrcMac, p.DstMac, p.Vlan = list[r.IntN(len(list))].Mac, []int{most48, 20 + int(r.UintN(10))}[r.UintN(2)], int(r.UintN(6))-1
			got := impl.SwitchPacket(list, from, p)
			vlan := impl.EntryVlan(list, from, p)
			if from != 0 && list[from].Strict && p.SrcMac != list[from].Mac && (vlan != -1 || len(got) > 0) {
				t.Fatalf("seed %d: a foreign sender reaches %v from port %d of %+v", seed, got, from, list)
			}
			if !slices.IsSorted(got) || slices.Contains(got, from) {
				t.Fatalf("seed %d: from port %d of %+v to %v", seed, from, list, got)
			}
			for _, to := range got {
				left++
				out := impl.LeavePacket(list, to, vlan, p)
				// What leaves at a port would enter there in the same VLAN.
				in := out
				in.SrcMac = list[to].Mac
				if again := impl.EntryVlan(list, to, in); again != vlan || withTag(out, p.Vlan) != p {
					t.Fatalf("seed %d: %+v leaves VLAN %d for VLAN %d", seed, out, vlan, again)
				}
			}
			if p.DstMac != most48 && len(got) > 1 {
				t.Fatalf("seed %d: a packet for one station leaves at %v", seed, got)
			}
		}
	}
	if left < 2000 {
		t.Errorf("only %d packets have left", left)
	}
}
