package tests

import (
	"slices"
	"strings"
	"testing"

	"loop.example/g03312/impl"
)

// badPieces are lists of pieces that are not valid.
func badPieces() [][]impl.Piece {
	return [][]impl.Piece{{{At: -1, Len: 1}}, {{At: 1, Len: -1}}, {{Len: 2}, {At: 1, Len: 4097}}, slices.Repeat([]impl.Piece{{At: 400}}, 17)}
}

func TestPiecesOk(t *testing.T) {
	if impl.MaxPieces != 16 {
		t.Error("another constant", impl.MaxPieces)
	}
	for n := range 20 {
		list := slices.Repeat([]impl.Piece{{At: 5, Len: 7}}, n)
		want := -1
		if n <= 16 {
			want = 7 * n
		}
		if got := impl.PiecesOk(list); got != (n <= 16) {
			t.Errorf("%d pieces: got %v", n, got)
		}
		if got := impl.PiecesLength(list); got != want {
			t.Errorf("the length of %d pieces: got %d", n, got)
		}
	}
	for _, at := range append([]int{-1, 0, 1, 1 << 20}, far...) {
		for _, n := range append([]int{-1, 0, 1, 4095, 4096, 4097}, far...) {
			want, length := at >= 0 && n >= 0 && n <= 4096, -1
			if want {
				length = n + 3
			}
			for _, list := range [][]impl.Piece{{{At: at, Len: n}, {Len: 3}}, {{Len: 3}, {At: at, Len: n}}} {
				if got := impl.PiecesOk(list); got != want {
					t.Errorf("%+v: got %v", list, got)
				}
				if got := impl.PiecesLength(list); got != length {
					t.Errorf("the length of %+v: got %d", list, got)
				}
			}
		}
	}
	if !impl.PiecesOk(nil) || impl.PiecesLength(nil) != 0 || impl.PiecesLength(slices.Repeat([]impl.Piece{{Len: 4096}}, 16)) != 65536 {
		t.Error("no pieces are refused, or the longest ones have another length")
	}
	checkPure(t, impl.PiecesOk, []impl.Piece{{At: 1, Len: 2}})
	checkPure(t, impl.PiecesLength, []impl.Piece{{At: 1, Len: 2}})
}

func TestCutPieces(t *testing.T) {
	limits := []int{1, 2, 3, 15, 16, 17, 31, 32, 33, 127, 255, 256, 257, 4095, 4096}
	for _, at := range []int{0, 1, 100, 1023*128 - 1, 1023 * 128} {
		for _, n := range limits {
			for _, size := range limits {
				var want []impl.Piece
				for done := 0; done < n; done += size {
					want = append(want, impl.Piece{At: at + done, Len: min(size, n-done)})
				}
				if len(want) > 16 {
					want = nil
				}
				got := impl.CutPieces(at, n, size)
				if !slices.Equal(got, want) || want == nil && got != nil {
					t.Errorf("CutPieces(%d, %d, %d): got %+v", at, n, size, got)
				}
				if want != nil && impl.PiecesLength(got) != n {
					t.Errorf("CutPieces(%d, %d, %d) has %d bytes", at, n, size, impl.PiecesLength(got))
				}
			}
		}
	}
	for _, n := range append([]int{-1, 0, 4097}, far...) {
		for _, other := range []int{1, 100, 4096, n} {
			if a, b := impl.CutPieces(0, n, other), impl.CutPieces(0, other, n); a != nil || b != nil {
				t.Errorf("CutPieces with %d and %d: got %+v and %+v", n, other, a, b)
			}
		}
	}
	for _, at := range append([]int{-1, 1023*128 + 1, 1024 * 128}, far...) {
		if got := impl.CutPieces(at, 10, 5); got != nil {
			t.Errorf("CutPieces at %d: got %+v", at, got)
		}
	}
}

func TestGatherPieces(t *testing.T) {
	m := memory(3)
	all := bytesOf(m)
	list := mappings()
	// The device pages 3 and 4 are the pages 2 and 0.
	cases := []struct {
		pieces []impl.Piece
		want   string
		ok     bool
	}{
		{nil, "", true}, {[]impl.Piece{{At: 384, Len: 0}}, "", true}, {[]impl.Piece{{At: 0, Len: 0}, {At: 1 << 40, Len: 0}}, "", true},
		{[]impl.Piece{{At: 384, Len: 3}}, all[256:259], true}, {[]impl.Piece{{At: 510, Len: 4}}, all[382:384] + all[:2], true},
		{[]impl.Piece{{At: 520, Len: 5}, {At: 384, Len: 2}, {At: 521, Len: 0}, {At: 520, Len: 1}}, all[8:13] + all[256:258] + all[8:9], true},
		{[]impl.Piece{{At: 384, Len: 512}}, all[256:] + all[:128] + all[128:256] + all[:128], true},
		{[]impl.Piece{{At: 384, Len: 513}}, "", false}, {[]impl.Piece{{At: 384, Len: 3}, {At: 383, Len: 2}}, "", false},
		{[]impl.Piece{{At: 383, Len: 1}}, "", false}, {[]impl.Piece{{At: 1024, Len: 1}}, "", false},
	}
	for _, c := range cases {
		if got, ok := impl.GatherPieces(list, m, 2, c.pieces); got != c.want || ok != c.ok {
			t.Errorf("GatherPieces of %+v: got %q, %v", c.pieces, got, ok)
		}
		checkPure(t, impl.GatherPieces, list, m, 2, c.pieces)
	}
	for _, pieces := range badPieces() {
		if got, ok := impl.GatherPieces(identity(0, 64), memory(64), 0, pieces); got != "" || ok {
			t.Errorf("GatherPieces of %+v: got %q, %v", pieces, got, ok)
		}
	}
	if got, ok := impl.GatherPieces(list, m, 5, []impl.Piece{{At: 520, Len: 1}}); got != "" || ok {
		t.Errorf("GatherPieces in another domain: got %q, %v", got, ok)
	}
	sixteen := slices.Repeat([]impl.Piece{{At: 0, Len: 4096}}, 16)
	if got, ok := impl.GatherPieces(identity(0, 32), memory(32), 0, sixteen); got != strings.Repeat(bytesOf(memory(32)), 16) || !ok {
		t.Errorf("GatherPieces of the longest pieces: got %d bytes, %v", len(got), ok)
	}
}

func TestScatterPieces(t *testing.T) {
	m := memory(3)
	all := bytesOf(m)
	list := mappings()
	cases := []struct {
		pieces []impl.Piece
		s      string
		want   string
		ok     bool
	}{
		{nil, "", all, true}, {nil, "a", all, false}, {[]impl.Piece{{At: 384}}, "a", all, false},
		{[]impl.Piece{{At: 384, Len: 3}}, "abc", put(all, 256, "abc"), true}, {[]impl.Piece{{At: 384, Len: 3}}, "ab", put(all, 256, "ab"), true},
		{[]impl.Piece{{At: 384, Len: 3}}, "", all, true}, {[]impl.Piece{{At: 384, Len: 3}}, "abcd", all, false},
		{[]impl.Piece{{At: 510, Len: 4}, {At: 520, Len: 2}}, "abcdef", put(put(put(all, 382, "ab"), 0, "cd"), 8, "ef"), true},
		{[]impl.Piece{{At: 510, Len: 4}, {At: 520, Len: 2}}, "abcde", put(put(put(all, 382, "ab"), 0, "cd"), 8, "e"), true},
		{[]impl.Piece{{At: 510, Len: 4}, {At: 520, Len: 2}}, "abcd", put(put(all, 382, "ab"), 0, "cd"), true},
		// A piece that takes nothing may lie anywhere.
		{[]impl.Piece{{At: 384, Len: 2}, {At: 0, Len: 2}}, "ab", put(all, 256, "ab"), true},
		{[]impl.Piece{{At: 384, Len: 2}, {At: 0, Len: 2}}, "abc", all, false},
		{[]impl.Piece{{At: 0, Len: 0}, {At: 384, Len: 2}}, "ab", put(all, 256, "ab"), true},
		// Page 5 is read only.
		{[]impl.Piece{{At: 384, Len: 2}, {At: 640, Len: 1}}, "abc", all, false}, {[]impl.Piece{{At: 639, Len: 2}}, "ab", all, false},
		// Later pieces count.
		{[]impl.Piece{{At: 512, Len: 3}, {At: 769, Len: 3}}, "abcdef", put(all, 0, "adef"), true},
	}
	for _, c := range cases {
		got, ok := impl.ScatterPieces(list, m, 2, c.pieces, c.s)
		if bytesOf(got) != c.want || ok != c.ok {
			t.Errorf("ScatterPieces of %q to %+v: got %q, %v", c.s, c.pieces, bytesOf(got), ok)
		}
		checkPure(t, impl.ScatterPieces, list, m, 2, c.pieces, c.s)
	}
	for _, pieces := range badPieces() {
		for _, s := range []string{"", "a"} {
			if got, ok := impl.ScatterPieces(identity(0, 64), memory(64), 0, pieces, s); !sameMemory(got, memory(64)) || ok {
				t.Errorf("ScatterPieces to %+v: got %v", pieces, ok)
			}
		}
	}
	if got, ok := impl.ScatterPieces(list, m, 5, []impl.Piece{{At: 520, Len: 1}}, "a"); !sameMemory(got, m) || ok {
		t.Errorf("ScatterPieces in another domain: got %v", ok)
	}
}

func TestPiecesOfInvalidMemory(t *testing.T) {
	empty := []impl.Piece{{At: 384}}
	check := func(name string, list []impl.Mapping, m impl.Memory) {
		t.Helper()
		if got, ok := impl.GatherPieces(list, m, 2, empty); got != "" || ok {
			t.Errorf("%s: an empty piece is gathered: %q, %v", name, got, ok)
		}
		if got, ok := impl.ScatterPieces(list, m, 2, empty, ""); !sameMemory(got, m) || ok {
			t.Errorf("%s: nothing is scattered to a piece: %v", name, ok)
		}
		// Without pieces there is no transfer that could fail.
		if got, ok := impl.GatherPieces(list, m, 2, nil); got != "" || !ok {
			t.Errorf("%s: no pieces are not gathered: %q, %v", name, got, ok)
		}
		if got, ok := impl.ScatterPieces(list, m, 2, nil, ""); !sameMemory(got, m) || !ok {
			t.Errorf("%s: nothing is not scattered to no pieces: %v", name, ok)
		}
		checkPure(t, impl.ScatterPieces, list, m, 2, empty, "")
		checkPure(t, impl.ScatterPieces, list, m, 2, nil, "")
	}
	for _, list := range invalidMappings() {
		check("invalid mappings", list, memory(3))
	}
	for _, m := range invalidMemories() {
		check("an invalid memory", mappings(), m)
	}
}

// apartModel is PiecesApart, byte by byte.
func apartModel(list []impl.Mapping, domain int, pieces []impl.Piece) bool {
	seen := map[int]bool{}
	for _, x := range pieces {
		for i := range x.Len {
			place := placeOf(list, domain, x.At+i, false)
			if place < 0 || seen[place] {
				return false
			}
			seen[place] = true
		}
	}
	return true
}

func TestPiecesApart(t *testing.T) {
	list := mappings()
	cases := []struct {
		pieces []impl.Piece
		want   bool
	}{
		{nil, true}, {[]impl.Piece{{At: 0}, {At: 1 << 40}}, true}, {[]impl.Piece{{At: 384, Len: 384}}, true}, {[]impl.Piece{{At: 384, Len: 385}}, false},
		{[]impl.Piece{{At: 383, Len: 1}}, false}, {[]impl.Piece{{At: 384, Len: 5}, {At: 389, Len: 5}}, true}, {[]impl.Piece{{At: 389, Len: 5}, {At: 384, Len: 5}}, true},
		{[]impl.Piece{{At: 384, Len: 6}, {At: 389, Len: 5}}, false}, {[]impl.Piece{{At: 389, Len: 5}, {At: 384, Len: 6}}, false}, {[]impl.Piece{{At: 384, Len: 1}, {At: 384, Len: 1}}, false},
		{[]impl.Piece{{At: 384, Len: 9}, {At: 386, Len: 1}}, false}, {[]impl.Piece{{At: 384, Len: 9}, {At: 386, Len: 0}}, true},
		// The device pages 4 and 6 are the same page.
		{[]impl.Piece{{At: 512, Len: 5}, {At: 768 + 5, Len: 5}}, true}, {[]impl.Piece{{At: 512, Len: 5}, {At: 768 + 4, Len: 5}}, false},
		// PiecesApart does not ask whether a page is writable or exists.
		{[]impl.Piece{{At: 640, Len: 128}, {At: 1024, Len: 128}}, true},
	}
	for _, c := range cases {
		if got := impl.PiecesApart(list, 2, c.pieces); got != c.want || got != apartModel(list, 2, c.pieces) {
			t.Errorf("PiecesApart of %+v: got %v", c.pieces, got)
		}
	}
	for _, pieces := range badPieces() {
		if impl.PiecesApart(identity(0, 64), 0, pieces) {
			t.Errorf("the invalid pieces %+v are apart", pieces)
		}
	}
	for _, bad := range invalidMappings() {
		if impl.PiecesApart(bad, 2, []impl.Piece{{At: 384, Len: 1}}) || !impl.PiecesApart(bad, 2, []impl.Piece{{At: 384}}) {
			t.Error("with invalid mappings a byte has a place, or no byte needs one")
		}
	}
	for _, at := range far {
		if at >= 0 && impl.PiecesApart(list, 2, []impl.Piece{{At: at, Len: 4096}}) {
			t.Errorf("bytes at %d have places", at)
		}
	}
	// All bytes of memory are apart; one more is not.
	whole := []impl.Piece{{At: 0, Len: 4096}, {At: 4096, Len: 4096}}
	if !impl.PiecesApart(identity(0, 64), 0, whole) || impl.PiecesApart(identity(0, 64), 0, append(whole, impl.Piece{At: 9, Len: 1})) {
		t.Error("all bytes of memory are not apart, or one more is")
	}
	checkPure(t, impl.PiecesApart, list, 2, []impl.Piece{{At: 389, Len: 5}, {At: 384, Len: 5}})
}

func TestScatteredDataCanBeGathered(t *testing.T) {
	apart, gathered := 0, 0
	for seed := range uint64(1500) {
		r := newRandom(seed)
		m := memory(6)
		var list []impl.Mapping
		for range 20 {
			list, _ = impl.MapPage(list, impl.Mapping{Domain: 1, Virtual: int(r.UintN(8)), Physical: int(r.UintN(6)), Writable: r.UintN(9) > 0})
		}
		var pieces []impl.Piece
		for range r.UintN(6) {
			pieces = append(pieces, impl.Piece{At: int(r.UintN(900)), Len: int(r.UintN(100))})
		}
		is := impl.PiecesApart(list, 1, pieces)
		if want := apartModel(list, 1, pieces); is != want {
			t.Fatalf("seed %d: PiecesApart is %v", seed, is)
		}
		s := randomText(r, impl.PiecesLength(pieces))
		changed, ok := impl.ScatterPieces(list, m, 1, pieces, s)
		want, can := m, true
		rest := s
		for _, x := range pieces {
			if can {
				want, can = writeModel(list, want, 1, x.At, rest[:x.Len], true)
				rest = rest[x.Len:]
			}
		}
		if !can {
			want = m
		}
		if ok != can || !sameMemory(changed, want) {
			t.Fatalf("seed %d: ScatterPieces returns %v, not %v", seed, ok, can)
		}
		if !ok {
			continue
		}
		back, read := impl.GatherPieces(list, changed, 1, pieces)
		if !read || is && back != s {
			t.Fatalf("seed %d: %q is gathered as %q, %v", seed, s, back, read)
		}
		gathered++
		if is && len(pieces) > 1 {
			apart++
		}
	}
	if apart < 50 || gathered < 300 {
		t.Errorf("only %d lists of %d were apart", apart, gathered)
	}
}

func TestCutDataCanBeGathered(t *testing.T) {
	list := identity(3, 40)
	for _, n := range []int{1, 50, 128, 129, 1000, 4096} {
		for _, size := range []int{1, 7, 10, 100, 256, 4096} {
			pieces := impl.CutPieces(77, n, size)
			if pieces == nil {
				continue
			}
			s := text(n + 9)[9:]
			m, ok := impl.ScatterPieces(list, memory(40), 3, pieces, s)
			back, read := impl.GatherPieces(list, m, 3, pieces)
			if !ok || !read || back != s || bytesOf(m) != put(bytesOf(memory(40)), 77, s) || !impl.PiecesApart(list, 3, pieces) {
				t.Errorf("%d bytes in pieces of %d are not gathered again", n, size)
			}
		}
	}
}
