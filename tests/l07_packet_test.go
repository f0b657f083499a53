package tests

import (
	"strings"
	"testing"

	"loop.example/g03312/impl"
)

// superFine reports whether a super-packet is accepted; it fails the test if SuperOk and
// BuildImage disagree.
func superFine(t *testing.T) func(impl.Packet) bool {
	return func(p impl.Packet) bool {
		s, ok := impl.BuildImage(p)
		if is := impl.SuperOk(p); is != ok || ok != (s != "") {
			t.Errorf("%+v: SuperOk returns %v, BuildImage %q, %v", p, is, s, ok)
		}
		return ok
	}
}

// packetFine does the same for PacketOk and BuildFrame.
func packetFine(t *testing.T) func(impl.Packet) bool {
	return func(p impl.Packet) bool {
		s, ok := impl.BuildFrame(p)
		if is := impl.PacketOk(p); is != ok || ok != (s != "") {
			t.Errorf("%+v: PacketOk returns %v, BuildFrame %q, %v", p, is, s, ok)
		}
		return ok
	}
}

func TestPacketConstants(t *testing.T) {
	codes := []int{impl.FrameFine, impl.FrameFcs, impl.FrameEth, impl.FrameIp, impl.FrameSegment, impl.FrameLong}
	for i, c := range codes {
		if c != i {
			t.Errorf("code %d is %d", i, c)
		}
	}
	if impl.MaxPayload != 128 {
		t.Error("another constant", impl.MaxPayload)
	}
}

func TestPacketFields(t *testing.T) {
	fields := []field[impl.Packet]{
		{"DstMac", 0, most48, func(p *impl.Packet, n int) { p.DstMac = n }},
		{"SrcMac", 0, most48, func(p *impl.Packet, n int) { p.SrcMac = n }},
		{"Vlan", -1, 4095, func(p *impl.Packet, n int) { p.Vlan = n }},
		{"Tos", 0, most8, func(p *impl.Packet, n int) { p.Tos = n }},
		{"Id", 0, most16, func(p *impl.Packet, n int) { p.Id = n }},
		{"Ttl", 0, most8, func(p *impl.Packet, n int) { p.Ttl = n }},
		{"SrcIp", 0, most32, func(p *impl.Packet, n int) { p.SrcIp = n }},
		{"DstIp", 0, most32, func(p *impl.Packet, n int) { p.DstIp = n }},
		{"SrcPort", 0, most16, func(p *impl.Packet, n int) { p.Seg.SrcPort = n }},
	}
	for _, p := range []impl.Packet{tcp("hello"), udp("hello"), udp("")} {
		checkFields(t, p, fields, superFine(t))
		checkFields(t, p, fields, packetFine(t))
	}
	flags := []field[impl.Packet]{{"Flags", 0, 31, func(p *impl.Packet, n int) { p.Seg.Flags = n }}}
	checkFields(t, tcp(""), flags, superFine(t))
	checkFields(t, tcp(""), flags, packetFine(t))
	if impl.SuperOk(impl.Packet{}) || impl.PacketOk(impl.Packet{}) {
		t.Error("the zero packet is accepted")
	}
}

func TestPacketLengths(t *testing.T) {
	for _, n := range []int{0, 1, 127, 128, 129, 130, 319, 320, 321, 400} {
		for flags := range 32 {
			p := flagged(tcp(text(n)), flags)
			data := flags == 16 || flags == 16+1 || flags == 16+8 || flags == 16+8+1
			if got, want := superFine(t)(p), n <= 128 || n <= 320 && data; got != want {
				t.Errorf("%d bytes with the flags %d: SuperOk is %v", n, flags, got)
			}
			if got := packetFine(t)(p); got != (n <= 128) {
				t.Errorf("%d bytes with the flags %d: PacketOk is %v", n, flags, got)
			}
		}
		if super, packet := superFine(t)(udp(text(n))), packetFine(t)(udp(text(n))); super != (n <= 128) || packet != super {
			t.Errorf("a datagram of %d bytes: SuperOk is %v, PacketOk is %v", n, super, packet)
		}
	}
}

// image is the image of a packet with more bytes behind its datagram, as the tests build it.
func image(p impl.Packet, more string) string {
	g, _ := impl.BuildSegment(p.SrcIp, p.DstIp, p.Seg)
	d, _ := impl.BuildIp(impl.Ip{Tos: p.Tos, Id: p.Id, Ttl: p.Ttl, Proto: p.Seg.Kind, Src: p.SrcIp, Dst: p.DstIp, Body: g})
	return frameOf(p, 2048, d+more)
}

// frameOf is an Ethernet frame with the addresses and the tag of a packet.
func frameOf(p impl.Packet, kind int, body string) string {
	s, _ := impl.BuildEth(impl.Eth{Dst: p.DstMac, Src: p.SrcMac, Vlan: p.Vlan, Type: kind, Body: body})
	return s
}

func TestBuildImage(t *testing.T) {
	p := tcp("0123456789")
	want := image(p, "")
	if got, ok := impl.BuildImage(p); got != want || len(got) != 64 || !ok {
		t.Errorf("BuildImage: got %q, %v, want %q", got, ok, want)
	}
	if got, ok := impl.BuildFrame(p); got != impl.WithFcs(want) || !ok {
		t.Errorf("BuildFrame: got %q, %v", got, ok)
	}
	p = udp("hi")
	p.Vlan = 9
	want = image(p, strings.Repeat("\x00", 16))
	if got, ok := impl.BuildImage(p); got != want || len(got) != 64 || !ok {
		t.Errorf("BuildImage of a short datagram: got %q, %v, want %q", got, ok, want)
	}
	if got, ok := impl.BuildFrame(p); got != impl.WithFcs(want) || !ok {
		t.Errorf("BuildFrame of a short datagram: got %q, %v", got, ok)
	}
}

// manyPackets are packets of all lengths, flags and tags, up to the longest super-packet.
func manyPackets() []impl.Packet {
	var list []impl.Packet
	add := func(p impl.Packet, vlan int) {
		p.Vlan, p.Id, p.Tos = vlan, len(list), len(list)%256
		list = append(list, p)
	}
	for _, vlan := range []int{-1, 0, 7, 4095} {
		for _, n := range []int{0, 1, 5, 6, 17, 18, 19, 127, 128, 129, 319, 320} {
			for flags := range 32 {
				add(flagged(tcp(text(n)), flags), vlan)
			}
			add(udp(text(n)), vlan)
		}
	}
	return list
}

func TestPacketRoundTrip(t *testing.T) {
	for _, p := range manyPackets() {
		wantImage, wantFrame := p, p
		imageCode, frameCode := impl.FrameFine, impl.FrameFine
		if !impl.SuperOk(p) {
			wantImage, imageCode = impl.Packet{}, impl.FrameLong
		}
		if !impl.PacketOk(p) {
			wantFrame, frameCode = impl.Packet{}, impl.FrameLong
		}
		for _, more := range []string{"", "x", text(20)} {
			// The shortest body needs 18 bytes of padding, and the longest one has room for 40.
			s := image(p, more+strings.Repeat("z", 18))
			if got, code := impl.ReadImage(s); got != wantImage || code != imageCode {
				t.Fatalf("%+v: the image is read as %+v, %d", p, got, code)
			}
			if got, code := impl.ReadFrame(impl.WithFcs(s)); got != wantFrame || code != frameCode {
				t.Fatalf("%+v: the frame is read as %+v, %d", p, got, code)
			}
		}
		if s, ok := impl.BuildImage(p); ok {
			if got, code := impl.ReadImage(s); got != p || code != impl.FrameFine {
				t.Fatalf("%+v: its image is read as %+v, %d", p, got, code)
			}
		}
		if s, ok := impl.BuildFrame(p); ok {
			if got, code := impl.ReadFrame(s); got != p || code != impl.FrameFine {
				t.Fatalf("%+v: its frame is read as %+v, %d", p, got, code)
			}
		}
	}
}

func checkCode(t *testing.T, s string, want int) {
	t.Helper()
	if p, code := impl.ReadImage(s); p != (impl.Packet{}) || code != want {
		t.Errorf("ReadImage of %d bytes: got %+v, %d, want the code %d", len(s), p, code, want)
	}
	if p, code := impl.ReadFrame(impl.WithFcs(s)); p != (impl.Packet{}) || code != want {
		t.Errorf("ReadFrame of %d bytes: got %+v, %d, want the code %d", len(s), p, code, want)
	}
}

func TestFrameCodes(t *testing.T) {
	p := tcp("hello")
	s, _ := impl.BuildImage(p)
	body := s[14:]
	checkCode(t, "", impl.FrameEth)
	checkCode(t, s[:59], impl.FrameEth)
	checkCode(t, frameOf(p, 2047, body), impl.FrameEth)
	checkCode(t, frameOf(p, 2049, body), impl.FrameEth)
	checkCode(t, frameOf(p, 65535, text(46)), impl.FrameEth)
	checkCode(t, frameOf(p, 2048, text(46)), impl.FrameIp)
	checkCode(t, frameOf(p, 2048, strings.Repeat("\x00", 46)), impl.FrameIp)
	checkCode(t, flip(s, 8*14), impl.FrameIp)
	checkCode(t, flip(s, 8*33+7), impl.FrameIp)
	checkCode(t, flip(s, 8*34), impl.FrameSegment)
	checkCode(t, flip(s, 8*58+7), impl.FrameSegment)
	for _, proto := range []int{0, 1, 5, 7, 16, 17, 18, 255} {
		g, _ := impl.BuildSegment(p.SrcIp, p.DstIp, p.Seg)
		d, _ := impl.BuildIp(impl.Ip{Ttl: 1, Proto: proto, Src: p.SrcIp, Dst: p.DstIp, Body: g + text(20)})
		checkCode(t, frameOf(p, 2048, d), impl.FrameSegment)
	}
	checkCode(t, image(udp(text(129)), ""), impl.FrameLong)
	checkCode(t, image(udp(text(320)), ""), impl.FrameLong)
	checkCode(t, image(flagged(tcp(text(129)), impl.FlagAck+impl.FlagSyn), ""), impl.FrameLong)
	checkCode(t, image(flagged(tcp(text(129)), impl.FlagPsh), ""), impl.FrameLong)
	checkCode(t, image(flagged(tcp(text(129)), 0), ""), impl.FrameLong)
}

func TestFramesOfSuperPacketsAreTooLong(t *testing.T) {
	p := tcp(text(129))
	s, _ := impl.BuildImage(p)
	if got, code := impl.ReadImage(s); got != p || code != impl.FrameFine {
		t.Errorf("the image is read as %+v, %d", got, code)
	}
	if got, code := impl.ReadFrame(impl.WithFcs(s)); got != (impl.Packet{}) || code != impl.FrameLong {
		t.Errorf("the frame is read as %+v, %d", got, code)
	}
}

func TestNoFrameWithAFlippedBitIsAccepted(t *testing.T) {
	tagged := tcp("hello")
	tagged.Vlan = 4
	for _, p := range []impl.Packet{tcp(""), tcp(text(128)), tagged, udp(""), udp("hi"), udp(text(128))} {
		s, _ := impl.BuildFrame(p)
		for bit := range 8 * len(s) {
			if got, code := impl.ReadFrame(flip(s, bit)); got != (impl.Packet{}) || code != impl.FrameFcs {
				t.Errorf("bit %d of the frame of %+v: got %+v, %d", bit, p, got, code)
			}
		}
		for n := range len(s) {
			if got, code := impl.ReadFrame(s[:n]); got != (impl.Packet{}) || code != impl.FrameFcs {
				t.Errorf("%d bytes of the frame of %+v: got %+v, %d", n, p, got, code)
			}
		}
	}
}

func TestFlowOf(t *testing.T) {
	p := impl.Packet{DstMac: 1, SrcMac: 2, Vlan: 3, Tos: 4, Id: 5, Ttl: 6, SrcIp: 7, DstIp: 8,
		Seg: impl.Segment{Kind: 9, SrcPort: 10, DstPort: 11, Seq: 12, Ack: 13, Flags: 14, Window: 15, Body: "16"}}
	if got := impl.FlowOf(p); got != (impl.Flow{Kind: 9, SrcIp: 7, DstIp: 8, SrcPort: 10, DstPort: 11}) {
		t.Errorf("FlowOf: got %+v", got)
	}
	if got := impl.FlowOf(impl.Packet{}); got != (impl.Flow{}) {
		t.Errorf("FlowOf the zero packet: got %+v", got)
	}
}

func TestSamePath(t *testing.T) {
	changes := []struct {
		name string
		same bool
		set  func(*impl.Packet)
	}{
		{"DstMac", false, func(p *impl.Packet) { p.DstMac++ }},
		{"SrcMac", false, func(p *impl.Packet) { p.SrcMac++ }},
		{"Vlan", false, func(p *impl.Packet) { p.Vlan++ }},
		{"Tos", false, func(p *impl.Packet) { p.Tos++ }},
		{"Id", true, func(p *impl.Packet) { p.Id++ }},
		{"Ttl", false, func(p *impl.Packet) { p.Ttl++ }},
		{"SrcIp", false, func(p *impl.Packet) { p.SrcIp++ }},
		{"DstIp", false, func(p *impl.Packet) { p.DstIp++ }},
		{"Kind", false, func(p *impl.Packet) { p.Seg.Kind++ }},
		{"SrcPort", false, func(p *impl.Packet) { p.Seg.SrcPort++ }},
		{"DstPort", false, func(p *impl.Packet) { p.Seg.DstPort++ }},
		{"Seq", true, func(p *impl.Packet) { p.Seg.Seq++ }},
		{"Ack", false, func(p *impl.Packet) { p.Seg.Ack++ }},
		{"Flags", true, func(p *impl.Packet) { p.Seg.Flags++ }},
		{"Window", false, func(p *impl.Packet) { p.Seg.Window++ }},
		{"Body", true, func(p *impl.Packet) { p.Seg.Body += "x" }},
	}
	for _, p := range []impl.Packet{{}, tcp("hello"), udp("hello")} {
		for _, c := range changes {
			other := p
			c.set(&other)
			if got, back := impl.SamePath(p, other), impl.SamePath(other, p); got != c.same || back != c.same {
				t.Errorf("packets with another %s: got %v, %v", c.name, got, back)
			}
		}
		if !impl.SamePath(p, p) {
			t.Errorf("%+v has another path than itself", p)
		}
	}
}
