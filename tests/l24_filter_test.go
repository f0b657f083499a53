package tests

import (
	"slices"
	"testing"

	"loop.example/g03312/impl"
)

func filter() impl.Filter {
	return impl.Filter{Mac: 0x020000000001, Vlans: []int{0, 5, 9, 4095}}
}

func sameFilter(a impl.Filter, b impl.Filter) bool {
	return a.Mac == b.Mac && a.Promiscuous == b.Promiscuous && slices.Equal(a.Vlans, b.Vlans)
}

// badFilters are filters that are not valid.
func badFilters() []impl.Filter {
	return []impl.Filter{
		{Mac: -1}, {Mac: most48}, {Vlans: []int{5, 5}}, {Vlans: []int{6, 5}}, {Vlans: []int{1, 3, 2}}, {Vlans: []int{-1}}, {Vlans: []int{4096}},
		{Vlans: []int{-1, 5}}, {Vlans: []int{5, 4096}}, {Vlans: []int{0, 1, 2, 3, 4, 5, 6, 7, 8}}, {Mac: most48 + 1, Promiscuous: true},
	}
}

func TestFilterOk(t *testing.T) {
	if impl.Broadcast != most48 {
		t.Error("another constant", impl.Broadcast)
	}
	for _, promiscuous := range []bool{false, true} {
		f := filter()
		f.Promiscuous = promiscuous
		fields := []field[impl.Filter]{
			{"Mac", 0, most48 - 1, func(f *impl.Filter, n int) { f.Mac = n }},
			{"the only one of Vlans", 0, 4095, func(f *impl.Filter, n int) { f.Vlans = []int{n} }},
			{"the first of Vlans", 0, 4, func(f *impl.Filter, n int) { f.Vlans = []int{n, 5, 9} }},
			{"the second of Vlans", 6, 8, func(f *impl.Filter, n int) { f.Vlans = []int{5, n, 9} }},
			{"the last of Vlans", 10, 4095, func(f *impl.Filter, n int) { f.Vlans = []int{5, 9, n} }},
		}
		checkFields(t, f, fields, impl.FilterOk)
	}
	for n := range 12 {
		f := filter()
		f.Vlans = impl.EvenTable(16, 4)[:0]
		for k := range n {
			f.Vlans = append(f.Vlans, 3*k)
		}
		if got := impl.FilterOk(f); got != (n <= 8) {
			t.Errorf("%d tags: got %v", n, got)
		}
	}
	for i, f := range badFilters() {
		if impl.FilterOk(f) {
			t.Errorf("the invalid filter %d is accepted", i)
		}
	}
	if !impl.FilterOk(impl.Filter{}) {
		t.Error("the zero filter is refused")
	}
	checkPure(t, impl.FilterOk, filter())
}

func TestAccepts(t *testing.T) {
	for _, promiscuous := range []bool{false, true} {
		f := filter()
		f.Promiscuous = promiscuous
		for _, mac := range append([]int{0, f.Mac - 1, f.Mac, f.Mac + 1, most48 - 1, most48}, far...) {
			for _, vlan := range append([]int{-1, 0, 1, 4, 5, 6, 9, 4094, 4095, 4096}, far...) {
				for _, p := range []impl.Packet{tcp("a"), udp(text(129)), {}} {
					// The packet itself need not be valid.
					p.DstMac, p.Vlan = mac, vlan
					want := (promiscuous || mac == f.Mac || mac == most48) && (vlan == -1 || slices.Contains(f.Vlans, vlan))
					if got := impl.Accepts(f, p); got != want {
						t.Errorf("a packet to %d with the tag %d, promiscuous %v: got %v", mac, vlan, promiscuous, got)
					}
				}
			}
		}
	}
	for i, f := range badFilters() {
		for _, vlan := range []int{-1, 5, 4096} {
			p := withTag(tcp("a"), vlan)
			p.DstMac = most48
			if impl.Accepts(f, p) {
				t.Errorf("the invalid filter %d lets a packet in", i)
			}
			p.DstMac = f.Mac
			if impl.Accepts(f, p) {
				t.Errorf("the invalid filter %d lets its own packet in", i)
			}
		}
	}
	checkPure(t, impl.Accepts, filter(), tcp("a"))
}

func TestAddVlan(t *testing.T) {
	eight := filter()
	eight.Vlans = []int{1, 3, 5, 7, 9, 11, 13, 15}
	seven := filter()
	seven.Vlans = eight.Vlans[:7]
	for _, f := range []impl.Filter{{Mac: 1}, {Promiscuous: true, Vlans: []int{7}}, filter(), seven, eight} {
		for _, vlan := range append([]int{-2, -1, 0, 1, 2, 4, 5, 6, 8, 9, 10, 14, 4094, 4095, 4096}, far...) {
			want := impl.Filter{Mac: f.Mac, Promiscuous: f.Promiscuous, Vlans: slices.Clone(f.Vlans)}
			can := vlan >= 0 && vlan <= 4095 && !slices.Contains(f.Vlans, vlan) && len(f.Vlans) < 8
			if can {
				want.Vlans = append(want.Vlans, vlan)
				slices.Sort(want.Vlans)
			}
			if got, ok := impl.AddVlan(f, vlan); ok != can || !sameFilter(got, want) {
				t.Errorf("adding %d to %+v: got %+v, %v", vlan, f, got, ok)
			}
			checkPure(t, impl.AddVlan, f, vlan)
		}
	}
	for i, f := range badFilters() {
		for _, vlan := range []int{-1, 5, 50, 4096} {
			if got, ok := impl.AddVlan(f, vlan); ok || !sameFilter(got, f) {
				t.Errorf("adding to the invalid filter %d: got %+v, %v", i, got, ok)
			}
			checkPure(t, impl.AddVlan, f, vlan)
		}
	}
}

func TestDropVlan(t *testing.T) {
	for _, f := range []impl.Filter{{}, {Mac: 4, Promiscuous: true, Vlans: []int{7}}, filter()} {
		for _, vlan := range append([]int{-1, 0, 1, 5, 6, 7, 9, 4094, 4095, 4096}, far...) {
			want := impl.Filter{Mac: f.Mac, Promiscuous: f.Promiscuous}
			for _, v := range f.Vlans {
				if v != vlan {
					want.Vlans = append(want.Vlans, v)
				}
			}
			if got, ok := impl.DropVlan(f, vlan); ok != slices.Contains(f.Vlans, vlan) || !sameFilter(got, want) {
				t.Errorf("dropping %d from %+v: got %+v, %v", vlan, f, got, ok)
			}
			checkPure(t, impl.DropVlan, f, vlan)
		}
	}
	for i, f := range badFilters() {
		for _, vlan := range append([]int{-1, 5, 4096}, f.Vlans...) {
			if got, ok := impl.DropVlan(f, vlan); ok || !sameFilter(got, f) {
				t.Errorf("dropping from the invalid filter %d: got %+v, %v", i, got, ok)
			}
			checkPure(t, impl.DropVlan, f, vlan)
		}
	}
}

// taggedPackets are packets to several addresses with several tags.
func taggedPackets() []impl.Packet {
	var list []impl.Packet
	for vlan := -1; vlan <= 12; vlan++ {
		for _, mac := range []int{filter().Mac, 7, most48} {
			p := withTag(udp("a"), vlan)
			p.DstMac = mac
			list = append(list, p)
		}
	}
	return list
}

func TestAnAddedTagLetsExactlyItsPacketsIn(t *testing.T) {
	for _, promiscuous := range []bool{false, true} {
		f := filter()
		f.Promiscuous = promiscuous
		for vlan := range 13 {
			added, ok := impl.AddVlan(f, vlan)
			if slices.Contains(f.Vlans, vlan) {
				continue
			}
			news := 0
			for _, p := range taggedPackets() {
				before, after := impl.Accepts(f, p), impl.Accepts(added, p)
				own := p.Vlan == vlan && (promiscuous || p.DstMac != 7)
				if !ok || after != (before || own) || before && own {
					t.Errorf("tag %d: %+v was let in: %v, and is: %v", vlan, p, before, after)
				}
				if after && !before {
					news++
				}
			}
			if want := 2; news != want && !promiscuous || news != 3 && promiscuous {
				t.Errorf("tag %d lets %d packets in", vlan, news)
			}
			back, gone := impl.DropVlan(added, vlan)
			if !gone || !sameFilter(back, f) {
				t.Errorf("tag %d added and dropped gives %+v", vlan, back)
			}
		}
	}
}

func TestAcceptedPackets(t *testing.T) {
	list := taggedPackets()
	for _, f := range append(badFilters(), filter(), impl.Filter{Promiscuous: true}, impl.Filter{}) {
		var want []impl.Packet
		for _, p := range list {
			if impl.Accepts(f, p) {
				want = append(want, p)
			}
		}
		if got := impl.AcceptedPackets(f, list); !slices.Equal(got, want) {
			t.Errorf("%+v: got %d packets, want %d", f, len(got), len(want))
		}
		if got := impl.AcceptedPackets(f, nil); len(got) != 0 {
			t.Errorf("%+v: of none, %d packets are let in", f, len(got))
		}
	}
	// Of three addresses the filter has two, and of the tags up to 12 it has three.
	if got := impl.AcceptedPackets(filter(), list); len(got) != 2*4 {
		t.Errorf("%d packets are let in", len(got))
	}
	checkPure(t, impl.AcceptedPackets, filter(), list)
}
