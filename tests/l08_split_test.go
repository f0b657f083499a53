package tests

import (
	"slices"
	"strings"
	"testing"

	"loop.example/g03312/impl"
)

// pieces divides a packet as the document says it, piece by piece.
func pieces(p impl.Packet, size int) []impl.Packet {
	if p.Seg.Kind != impl.KindTcp || len(p.Seg.Body) <= size {
		return []impl.Packet{p}
	}
	var list []impl.Packet
	for at := 0; at < len(p.Seg.Body); at += size {
		end := min(at+size, len(p.Seg.Body))
		piece := p
		piece.Seg.Body = p.Seg.Body[at:end]
		piece.Seg.Seq = int(uint32(p.Seg.Seq + at))
		piece.Id = int(uint16(p.Id + at/size))
		if end < len(p.Seg.Body) {
			piece.Seg.Flags = p.Seg.Flags & (impl.FlagSyn + impl.FlagRst + impl.FlagAck)
		}
		list = append(list, piece)
	}
	return list
}

func checkSplit(t *testing.T, p impl.Packet, size int, want []impl.Packet) {
	t.Helper()
	if got := impl.Split(p, size); !slices.Equal(got, want) {
		t.Errorf("Split of %+v with %d: got %+v, want %+v", p, size, got, want)
	}
	if got := impl.SplitCount(p, size); got != len(want) {
		t.Errorf("SplitCount of %+v with %d: got %d, want %d", p, size, got, len(want))
	}
	var frames []string
	for _, piece := range want {
		image, _ := impl.BuildImage(piece)
		frames = append(frames, impl.WithFcs(image))
	}
	if got := impl.SendFrames(p, size); !slices.Equal(got, frames) {
		t.Errorf("SendFrames of %+v with %d: got %d frames, want %d", p, size, len(got), len(frames))
	}
}

func TestSplit(t *testing.T) {
	p := flagged(tcp("abcdefgh"), impl.FlagAck+impl.FlagPsh+impl.FlagFin)
	p.Id, p.Seg.Seq = most16, most32-3
	first, second, third := p, p, p
	first.Seg.Body, first.Seg.Flags = "abc", impl.FlagAck
	second.Seg.Body, second.Seg.Flags, second.Id, second.Seg.Seq = "def", impl.FlagAck, 0, most32
	third.Seg.Body, third.Id, third.Seg.Seq = "gh", 1, 2
	checkSplit(t, p, 3, []impl.Packet{first, second, third})
	checkSplit(t, p, 8, []impl.Packet{p})
	checkSplit(t, p, 128, []impl.Packet{p})
	checkSplit(t, tcp(""), 1, []impl.Packet{tcp("")})
	checkSplit(t, tcp("a"), 1, []impl.Packet{tcp("a")})
	checkSplit(t, udp("abcdefgh"), 3, []impl.Packet{udp("abcdefgh")})
	checkSplit(t, udp(text(128)), 1, []impl.Packet{udp(text(128))})
}

func TestSplitAtAllSizes(t *testing.T) {
	for _, n := range []int{0, 1, 2, 3, 127, 128, 129, 255, 256, 257, 319, 320} {
		for size := 1; size <= 128; size++ {
			for _, flags := range []int{16, 16 + 1, 16 + 8, 16 + 8 + 1} {
				p := flagged(tcp(text(n)), flags)
				p.Id, p.Seg.Seq = most16-1, most32-100
				checkSplit(t, p, size, pieces(p, size))
			}
		}
	}
}

func TestSplitKeepsOtherFlags(t *testing.T) {
	for flags := range 32 {
		for _, size := range []int{1, 5, 9, 10, 11} {
			p := flagged(tcp("0123456789"), flags)
			checkSplit(t, p, size, pieces(p, size))
		}
	}
}

func TestPiecesFollowOneAnother(t *testing.T) {
	for _, size := range []int{1, 7, 64, 100, 128} {
		p := flagged(tcp(text(320)), impl.FlagAck+impl.FlagFin)
		p.Id, p.Seg.Seq = most16-2, most32-150
		body, seq := "", p.Seg.Seq
		list := impl.Split(p, size)
		for i, piece := range list {
			if !impl.PacketOk(piece) || !impl.SamePath(p, piece) || impl.FlowOf(piece) != impl.FlowOf(p) {
				t.Errorf("size %d: piece %d is %+v", size, i, piece)
			}
			if piece.Seg.Seq != seq || piece.Id != (p.Id+i)%(most16+1) {
				t.Errorf("size %d: piece %d has the numbers %d and %d", size, i, piece.Seg.Seq, piece.Id)
			}
			body += piece.Seg.Body
			seq = (seq + len(piece.Seg.Body)) % (most32 + 1)
		}
		if body != p.Seg.Body || list[len(list)-1].Seg.Flags != p.Seg.Flags {
			t.Errorf("size %d: the pieces have %d bytes, and the last one is %+v", size, len(body), list[len(list)-1])
		}
	}
}

func TestSplitRefuses(t *testing.T) {
	for _, size := range append([]int{-128, -1, 0, 129, 130, 320, 321}, far...) {
		for _, p := range []impl.Packet{tcp(""), tcp("abcdefg"), tcp(text(320)), udp("abc"), {}} {
			checkSplit(t, p, size, nil)
		}
	}
	bad := tcp("abcdefg")
	bad.Vlan = 4096
	badUdp := udp("abc")
	badUdp.Seg.Seq = 1
	for _, p := range []impl.Packet{{}, bad, badUdp, tcp(text(321)), udp(text(129)), flagged(tcp(text(129)), impl.FlagSyn), flagged(tcp("a"), 32)} {
		for _, size := range []int{1, 3, 128} {
			checkSplit(t, p, size, nil)
		}
	}
}

func TestFrameAll(t *testing.T) {
	bad := tcp("a")
	bad.Ttl = 256
	list := []impl.Packet{bad, tcp("a"), tcp(text(129)), udp(""), {}, tcp(text(128)), tcp("a"), udp(text(129))}
	var want []string
	for _, i := range []int{1, 3, 5, 6} {
		image, _ := impl.BuildImage(list[i])
		want = append(want, impl.WithFcs(image))
	}
	if got := impl.FrameAll(list); !slices.Equal(got, want) {
		t.Errorf("FrameAll: got %d frames %q", len(got), strings.Join(got, " "))
	}
	for _, none := range [][]impl.Packet{nil, {}, {bad}, {tcp(text(320)), {}}} {
		if got := impl.FrameAll(none); len(got) != 0 {
			t.Errorf("FrameAll of no valid packet: got %q", got)
		}
	}
	checkUnchanged(t, list, tcp("spare"), impl.FrameAll)
	checkUnchanged(t, list[:0], tcp("spare"), impl.FrameAll)
}

func TestSplitResultsAreSeparate(t *testing.T) {
	for _, p := range []impl.Packet{tcp("abcdefg"), tcp("ab")} {
		first, second := impl.Split(p, 3), impl.Split(p, 3)
		clear(first[:cap(first)])
		if !slices.Equal(second, pieces(p, 3)) {
			t.Errorf("a changed result shows in another one: %+v", second)
		}
	}
}
