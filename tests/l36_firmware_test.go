package tests

import (
	"slices"
	"strings"
	"testing"

	"loop.example/g03312/impl"
)

// firmware is an image that fills a bank from its beginning, followed by erased bytes.
func firmware(t *testing.T, version int, body string) string {
	t.Helper()
	s, ok := impl.MakeImage(version, body)
	if !ok {
		t.Fatalf("no image of version %d", version)
	}
	return s + strings.Repeat("\xff", 96-len(s))
}

// flash is a memory with two versions.
func flash(t *testing.T, first int, second int) impl.Flash {
	return impl.Flash{Banks: []string{firmware(t, first, "one"), firmware(t, second, "two")}}
}

// badFlashes are memories that are not valid.
func badFlashes(t *testing.T) []impl.Flash {
	a := firmware(t, 1, "a")
	return []impl.Flash{{}, {Banks: []string{a}}, {Banks: []string{a, a, a}}, {Banks: []string{a[:95], a}}, {Banks: []string{a, a + "\xff"}}, {Banks: []string{a, ""}}}
}

func sameFlash(a impl.Flash, b impl.Flash) bool { return slices.Equal(a.Banks, b.Banks) }

func TestMakeImage(t *testing.T) {
	if impl.BankSize != 96 || impl.ChunkSize != 8 || impl.MaxVersion != 1000000 || impl.StepErase != 0 || impl.StepWrite != 1 {
		t.Error("other constants")
	}
	for _, version := range append([]int{-1, 0, 1, 256, 999999, 1000000, 1000001, most32}, far...) {
		for _, n := range []int{0, 1, 2, 83, 84, 85, 200} {
			want, can := "", version >= 0 && version <= 1000000 && n <= 84
			if can {
				want = bytes16(version/65536) + bytes16(version%65536) + "\x00\x00" + bytes16(n) + text(n)
				sum := impl.Crc32(want)
				want += bytes16(sum/65536) + bytes16(sum%65536)
			}
			got, ok := impl.MakeImage(version, text(n))
			if got != want || ok != can {
				t.Errorf("version %d, %d bytes: got %q, %v", version, n, got, ok)
			}
			if can && impl.ImageVersion(got) != version {
				t.Errorf("the image of version %d has the version %d", version, impl.ImageVersion(got))
			}
		}
	}
}

func TestImageVersion(t *testing.T) {
	for _, n := range []int{0, 1, 50, 84} {
		s, _ := impl.MakeImage(770000, text(n))
		for _, more := range []string{"", "\x00", "x", strings.Repeat("\xff", 100)} {
			if got := impl.ImageVersion(s + more); got != 770000 {
				t.Errorf("%d bytes and %q: got %d", n, more, got)
			}
		}
		for k := range len(s) {
			if got := impl.ImageVersion(s[:k]); got != -1 {
				t.Errorf("%d bytes of an image: got %d", k, got)
			}
		}
		for bit := range 8 * len(s) {
			if got := impl.ImageVersion(flip(s, bit)); got != -1 {
				t.Errorf("bit %d of an image is flipped: got %d", bit, got)
			}
		}
	}
	// Images with a right sum that MakeImage does not make.
	summed := func(s string) string {
		sum := impl.Crc32(s)
		return s + bytes16(sum/65536) + bytes16(sum%65536)
	}
	version := "\x00\x0f\x42\x40"
	cases := map[string]string{
		"a large version": summed("\x00\x0f\x42\x41\x00\x00\x00\x00"), "a negative version": summed("\xff\xff\xff\xff\x00\x00\x00\x00"),
		"a long body": summed(version + "\x00\x00\x00\x55" + text(85)), "a length of less": summed(version + "\x00\x00\x00\x01" + text(2)),
		"a length of more": summed(version+"\x00\x00\x00\x03"+text(2)) + "\x00", "a very great length": summed(version + "\xff\xff\xff\xff"),
		"nothing": "", "zeros": strings.Repeat("\x00", 96), "ones": strings.Repeat("\xff", 96),
	}
	for name, s := range cases {
		if got := impl.ImageVersion(s); got != -1 {
			t.Errorf("%s: got %d", name, got)
		}
	}
	if got := impl.ImageVersion(summed(version + "\x00\x00\x00\x54" + text(84))); got != 1000000 {
		t.Errorf("the longest image: got %d", got)
	}
}

func TestFlashOk(t *testing.T) {
	for i, f := range badFlashes(t) {
		if impl.FlashOk(f) || impl.BootBank(f) != -1 || impl.BootVersion(f) != -1 {
			t.Errorf("the invalid memory %d is accepted", i)
		}
	}
	if !impl.FlashOk(flash(t, 1, 2)) || !impl.FlashOk(impl.Flash{Banks: []string{text(96), text(96)}}) {
		t.Error("a valid memory is refused")
	}
	checkPure(t, impl.FlashOk, flash(t, 1, 2))
}

func TestBootBank(t *testing.T) {
	none := strings.Repeat("\xff", 96)
	for _, first := range []int{-1, 0, 1, 5, 1000000} {
		for _, second := range []int{-1, 0, 1, 5, 1000000} {
			f := impl.Flash{Banks: []string{none, none}}
			if first >= 0 {
				f.Banks[0] = firmware(t, first, "x")
			}
			if second >= 0 {
				f.Banks[1] = firmware(t, second, "y")
			}
			want := -1
			if first >= 0 {
				want = 0
			}
			if second > first {
				want = 1
			}
			if got := impl.BootBank(f); got != want {
				t.Errorf("the versions %d and %d: got %d", first, second, got)
			}
			if got := impl.BootVersion(f); got != max(first, second) {
				t.Errorf("the versions %d and %d: version %d boots", first, second, got)
			}
		}
	}
}

// stepFine is FlashStepOk as the document says it.
func stepFine(x impl.FlashStep) bool {
	erase := x.Kind == 0 && x.At == 0 && x.Data == ""
	write := x.Kind == 1 && len(x.Data) >= 1 && len(x.Data) <= 8 && x.At >= 0 && x.At <= 96-len(x.Data)
	return (x.Bank == 0 || x.Bank == 1) && (erase || write)
}

// manySteps are steps, valid and not.
func manySteps() []impl.FlashStep {
	var list []impl.FlashStep
	for kind := -1; kind <= 2; kind++ {
		for bank := -1; bank <= 2; bank++ {
			for _, at := range append([]int{-1, 0, 1, 8, 87, 88, 89, 90, 94, 95, 96, 97}, far...) {
				for _, n := range []int{0, 1, 2, 7, 8, 9} {
					list = append(list, impl.FlashStep{Kind: kind, Bank: bank, At: at, Data: "\x0f\xf0\x00\xff\x55\xaa\x81\x7e\x11"[:n]})
				}
			}
		}
	}
	for _, n := range far {
		list = append(list, impl.FlashStep{Kind: n}, impl.FlashStep{Bank: n}, impl.FlashStep{Kind: 1, Bank: n, Data: "x"})
	}
	return list
}

func TestDoFlashStep(t *testing.T) {
	f := impl.Flash{Banks: []string{text(96), text(106)[10:]}}
	valid := 0
	for _, x := range manySteps() {
		fine := stepFine(x)
		if got := impl.FlashStepOk(x); got != fine {
			t.Errorf("%+v: FlashStepOk returns %v", x, got)
		}
		if fine {
			valid++
		}
		for _, part := range append([]int{-1, 0, 1, 2, 7, 8, 9, 50, 95, 96, 97, 1000}, far...) {
			want := copyOf(f)
			if fine && part >= 0 {
				bank := []byte(f.Banks[x.Bank])
				for i := range bank {
					if x.Kind == 0 && i < part {
						bank[i] = 255
					}
					if k := i - x.At; x.Kind == 1 && k >= 0 && k < min(part, len(x.Data)) {
						bank[i] &= x.Data[k]
					}
				}
				want.Banks[x.Bank] = string(bank)
			}
			if got := impl.DoFlashStep(f, x, part); !sameFlash(got, want) {
				t.Errorf("%d bytes of %+v: got %q", part, x, got)
			}
		}
		for i, bad := range badFlashes(t) {
			if got := impl.DoFlashStep(bad, x, 8); !sameFlash(got, bad) {
				t.Errorf("%+v in the invalid memory %d: got %q", x, i, got)
			}
		}
	}
	if valid < 50 {
		t.Errorf("%d steps are valid", valid)
	}
	checkPure(t, impl.DoFlashStep, f, impl.FlashStep{}, 50)
	checkPure(t, impl.DoFlashStep, f, impl.FlashStep{Kind: 1, Data: "x"}, 50)
	checkPure(t, impl.DoFlashStep, f, impl.FlashStep{Kind: 2}, 50)
}

func TestUpdateSteps(t *testing.T) {
	none := strings.Repeat("\xff", 96)
	banks := []struct {
		f    impl.Flash
		bank int
	}{
		{flash(t, 1, 2), 0}, {flash(t, 2, 1), 1}, {flash(t, 3, 3), 1}, {impl.Flash{Banks: []string{none, none}}, 0},
		{impl.Flash{Banks: []string{none, firmware(t, 0, "")}}, 0}, {impl.Flash{Banks: []string{firmware(t, 0, ""), none}}, 1},
	}
	for _, b := range banks {
		for n := range 85 {
			image, _ := impl.MakeImage(7, text(n))
			for _, more := range []string{"", "\xff", strings.Repeat("x", 96-len(image))} {
				if len(image+more) > 96 {
					continue
				}
				s := image + more
				want := []impl.FlashStep{{Bank: b.bank}}
				for at := 8; at < len(s); at += 8 {
					want = append(want, impl.FlashStep{Kind: 1, Bank: b.bank, At: at, Data: s[at:min(at+8, len(s))]})
				}
				want = append(want, impl.FlashStep{Kind: 1, Bank: b.bank, Data: s[:8]})
				got := impl.UpdateSteps(b.f, s)
				if !slices.Equal(got, want) {
					t.Errorf("an image of %d bytes: got %+v", len(s), got)
				}
				// All steps together write the image.
				done := impl.RunUpdate(b.f, got, len(got), 0)
				if !strings.HasPrefix(done.Banks[b.bank], s) || done.Banks[1-b.bank] != b.f.Banks[1-b.bank] {
					t.Errorf("an image of %d bytes: the banks are %q", len(s), done.Banks)
				}
			}
		}
		image, _ := impl.MakeImage(7, text(84))
		for _, bad := range []string{"", image[:95], image + "\xff", flip(image, 9), none} {
			if got := impl.UpdateSteps(b.f, bad); got != nil {
				t.Errorf("the image %q: got %+v", bad, got)
			}
		}
	}
	image, _ := impl.MakeImage(7, "new")
	for i, bad := range badFlashes(t) {
		if got := impl.UpdateSteps(bad, image); got != nil {
			t.Errorf("the invalid memory %d: got %+v", i, got)
		}
	}
	checkPure(t, impl.UpdateSteps, flash(t, 1, 2), image)
}

// updateModel is RunUpdate as the document says it.
func updateModel(f impl.Flash, steps []impl.FlashStep, n int, part int) impl.Flash {
	if n < 0 || part < 0 {
		return f
	}
	for i, x := range steps {
		if i < n {
			f = impl.DoFlashStep(f, x, 96)
		} else if i == n {
			f = impl.DoFlashStep(f, x, part)
		}
	}
	return f
}

func TestRunUpdate(t *testing.T) {
	image, _ := impl.MakeImage(7, text(40))
	steps := impl.UpdateSteps(flash(t, 1, 2), image)
	odd := append([]impl.FlashStep{{Kind: 5}, {Kind: 1, Bank: 1, At: 3, Data: "\x00"}}, steps[3:]...)
	for _, f := range append(badFlashes(t), flash(t, 1, 2)) {
		for _, list := range [][]impl.FlashStep{nil, steps, odd, steps[:1]} {
			for _, n := range append([]int{-1, 0, 1, 2, 3, 6, 7, 8, 9}, far...) {
				for _, part := range append([]int{-1, 0, 1, 3, 7, 8, 9, 95, 96, 97}, far...) {
					if got, want := impl.RunUpdate(f, list, n, part), updateModel(f, list, n, part); !sameFlash(got, want) {
						t.Errorf("%d steps and %d bytes: got %q, want %q", n, part, got, want)
					}
				}
			}
		}
	}
	checkPure(t, impl.RunUpdate, flash(t, 1, 2), steps, 3, 5)
	checkPure(t, impl.RunUpdate, flash(t, 1, 2), steps, 30, 5)
	checkPure(t, impl.RunUpdate, flash(t, 1, 2), steps, -1, 5)
}

func TestWhereverThePowerFailsTheCardBoots(t *testing.T) {
	for seed := range uint64(40) {
		r := newRandom(seed)
		f := flash(t, int(r.UintN(5)), int(r.UintN(5)))
		if seed%5 == 0 {
			f.Banks[seed/5%2] = randomText(r, 96)
		}
		for range 6 {
			before := impl.BootVersion(f)
			version := int(r.UintN(8))
			image, _ := impl.MakeImage(version, randomText(r, int(r.UintN(85))))
			steps := impl.UpdateSteps(f, image)
			for n := range len(steps) + 1 {
				for _, part := range []int{0, 1, 2, 3, 4, 7, 8, 50, 96} {
					after := impl.RunUpdate(f, steps, n, part)
					got := impl.BootVersion(after)
					complete := n >= len(steps) || n == len(steps)-1 && part >= 8
					// The first chunk alone can be complete before all of it was written, if the rest of it is erased bytes.
					if got != before && got != max(before, version) {
						t.Fatalf("seed %d: after %d steps and %d bytes version %d boots, not %d or %d", seed, n, part, got, before, version)
					}
					if complete && got != max(before, version) {
						t.Fatalf("seed %d: after the update to version %d, version %d boots", seed, version, got)
					}
					if !complete && n < len(steps)-1 && got != before {
						t.Fatalf("seed %d: in the middle of the update to version %d, version %d boots instead of %d", seed, version, got, before)
					}
				}
			}
			// The power fails somewhere, and the next update begins with what is there.
			f = impl.RunUpdate(f, steps, int(r.UintN(uint(len(steps)+1))), int(r.UintN(9)))
			if impl.BootVersion(f) == -1 {
				t.Fatalf("seed %d: the card does not boot", seed)
			}
		}
	}
}
