package patch

import (
	"strings"
	"testing"

	"pontoon/api"
	"pontoon/emu"
)

// makes tells whether Apply makes that screen of a.
func makes(t *testing.T, what any, a api.Screen, d string, want api.Screen) {
	t.Helper()
	if s, err := Apply(a, d); err != api.OK || !alike(s, want) {
		t.Errorf("%v: Apply of %x is %+v, %d, not %+v", what, d, s, err, want)
	}
}

// refuses tells whether Apply answers an error, and a zero screen beside it.
func refuses(t *testing.T, what any, a api.Screen, d string, want api.Errno) {
	t.Helper()
	if s, err := Apply(a, d); err != want || !alike(s, api.Screen{}) || s.Cells != nil {
		t.Errorf("%v: Apply of %x is %+v, %d, not the error %d", what, d, s, err, want)
	}
}

// judged holds Apply to what the model says of d, and tells whether it may be.
func judged(t *testing.T, what any, a api.Screen, d string) bool {
	t.Helper()
	want, ok := applied(a, d)
	if ok {
		makes(t, what, a, d, want)
	} else {
		refuses(t, what, a, d, api.ErrForm)
	}
	return ok
}

const (
	same = "\x04\x01\x00\x00\x00" // a size of 4, 1, and the cursor at its first place
	z    = "z\x00\x00\x00"
)

func TestP1802Apply(t *testing.T) {
	a := texted(4, "abcd")
	makes(t, "nothing", a, same+"\x00", a)
	makes(t, "the cursor", a, "\x04\x01\x03\x00\x01\x00", turned(a, func(s *api.Screen) { s.X, s.Hidden = 3, true }))
	makes(t, "one", a, same+"\x01\x02\x01"+z, texted(4, "abzd"))
	makes(t, "two", a, same+"\x02\x00\x01"+z+"\x02\x01"+z, texted(4, "zbcz"))
	makes(t, "all", a, same+"\x01\x00\x04"+z+z+z+z, texted(4, "zzzz"))
	makes(t, "another size", a, "\x02\x02\x00\x01\x00\x01\x00\x04"+z+z+z+z, turned(texted(2, "zzzz"), func(s *api.Screen) { s.Y = 1 }))
	makes(t, "another size, the same cells", a, "\x02\x02\x00\x00\x00\x01\x00\x04a\x00\x00\x00b\x00\x00\x00c\x00\x00\x00d\x00\x00\x00", texted(2, "abcd"))
	makes(t, "an attribute", a, same+"\x01\x00\x01a\x10\x01\x07", turned(a, func(s *api.Screen) {
		s.Cells[0].Attr = api.Attr{Fg: 16, Bg: 1, Bold: true, Under: true, Inverse: true}
	}))
	makes(t, "the cursor of a", turned(a, func(s *api.Screen) { s.X, s.Hidden = 3, true }), same+"\x00", a)
}

func TestP1802ApplyRefuses(t *testing.T) {
	a := texted(4, "abcd")
	zzzz := z + z + z + z
	for what, d := range map[string]string{
		"nothing":                       "",
		"no runs":                       same,
		"a byte behind":                 same + "\x00\x00",
		"a run behind":                  same + "\x00\x01\x01" + z,
		"a run too few":                 same + "\x02\x00\x01" + z,
		"a run without cells":           same + "\x01\x00\x00",
		"a run without cells, behind":   same + "\x02\x00\x01" + z + "\x01\x00",
		"runs next to each other":       same + "\x02\x00\x01" + z + "\x00\x01" + z,
		"a cell that is not changed":    same + "\x01\x00\x01a\x00\x00\x00",
		"one of them is not changed":    same + "\x01\x00\x02" + z + "b\x00\x00\x00",
		"a run behind the screen":       same + "\x01\x04\x01" + z,
		"a run beyond the screen":       same + "\x01\x03\x02" + z + z,
		"a second run behind":           same + "\x02\x00\x03" + z + z + z + "\x01\x01" + z,
		"a run that is too long":        same + "\x01\x00\x05" + zzzz + z,
		"a half cell":                   same + "\x01\x00\x01z\x00\x00",
		"no such foreground":            same + "\x01\x00\x01z\x11\x00\x00",
		"no such background":            same + "\x01\x00\x01z\x00\x11\x00",
		"no such marks":                 same + "\x01\x00\x01z\x00\x00\x08",
		"no such rune":                  same + "\x01\x00\x01\x80\x80\x44\x00\x00\x00",
		"hidden by another byte":        "\x04\x01\x00\x00\x02\x00",
		"hidden by a number":            "\x04\x01\x00\x00\x81\x00\x00",
		"a longer number of the width":  "\x84\x00\x01\x00\x00\x00\x00",
		"a longer number of runs":       same + "\x80\x00",
		"a longer number of a place":    same + "\x01\x80\x00\x01" + z,
		"a longer number of a length":   same + "\x01\x00\x81\x00" + z,
		"a longer number of a rune":     same + "\x01\x00\x01\xfa\x00\x00\x00\x00",
		"the cursor right of it":        "\x04\x01\x04\x00\x00\x00",
		"the cursor below it":           "\x04\x01\x00\x01\x00\x00",
		"another size, no runs":         "\x02\x02\x00\x00\x00\x00",
		"another size, not all":         "\x02\x02\x00\x00\x00\x01\x00\x03" + z + z + z,
		"another size, not from 0 on":   "\x02\x02\x00\x00\x00\x01\x01\x03" + z + z + z,
		"another size, two runs":        "\x02\x02\x00\x00\x00\x02\x00\x02" + z + z + "\x00\x02" + z + z,
		"another size, too many":        "\x02\x02\x00\x00\x00\x01\x00\x05" + zzzz + z,
		"a width too small":             "\x01\x01\x00\x00\x00\x01\x00\x01" + z,
		"no width":                      "\x00\x01\x00\x00\x00\x00",
		"no height":                     "\x04\x00\x00\x00\x00\x00",
		"a width too great":             "\x29\x01\x00\x00\x00\x01\x00\x29" + strings.Repeat(z, 41),
		"a width too great, as the end": "\x29\x01\x00\x00\x00\x01\x00\x28" + strings.Repeat(z, 40),
		"a height too great":            "\x02\x15\x00\x00\x00\x01\x00\x2a" + strings.Repeat(z, 42),
	} {
		refuses(t, what, a, d, api.ErrForm)
	}
	greatest := Blank(40, 20)
	refuses(t, "beyond the greatest", greatest, "\x29\x14\x00\x00\x00\x00", api.ErrForm)
	refuses(t, "higher than the greatest", greatest, "\x28\x15\x00\x00\x00\x00", api.ErrForm)
	makes(t, "the greatest", greatest, "\x28\x14\x00\x00\x00\x00", greatest)
}

// Numbers so great that a sum or a product of them goes beyond an int, and counts for which no bytes stand there.
func TestP1802ApplyOfFarNumbers(t *testing.T) {
	a := texted(4, "abcd")
	most := strings.Repeat("\xff", 8) + "\x7f"           // 2^63 - 1
	half := strings.Repeat("\x80", 8) + "\x40"           // 2^62
	least := strings.Repeat("\xff", 9) + "\x01"          // ten bytes
	wraps := "\xfe" + strings.Repeat("\xff", 7) + "\x7f" // 2^63 - 2
	for _, n := range []string{most, half, least, wraps, "\xff\xff\xff\xff\x0f", "\x84\x80\x80\x80\x10", "\x80\x80\x80\x80\x10"} {
		what := []byte(n) // as numbers
		for place := range 6 {
			refuses(t, what, a, same[:place]+n, api.ErrForm)
			refuses(t, what, a, same[:place]+n+same[min(place+1, 5):]+"\x00", api.ErrForm)
			refuses(t, what, a, same[:place]+n+strings.Repeat("\x00", 1000), api.ErrForm)
			refuses(t, what, a, same[:place]+strings.Repeat(n, 10), api.ErrForm)
		}
		refuses(t, what, a, same+n+"\x00\x01"+z, api.ErrForm)
		for _, other := range []string{most, half, wraps, "\x00", "\x01", "\x04"} {
			refuses(t, what, a, same+"\x01"+n+other+z, api.ErrForm)
			refuses(t, what, a, same+"\x01"+other+n+z, api.ErrForm)
			refuses(t, what, a, same+"\x02\x00\x01"+z+n+other+z, api.ErrForm)
			refuses(t, what, a, same+"\x02\x00\x01"+z+other+n+z, api.ErrForm)
			refuses(t, what, a, n+other+"\x00\x00\x00\x01\x00\x04"+z+z+z+z, api.ErrForm)
			refuses(t, what, a, other+n+"\x00\x00\x00\x01\x00\x04"+z+z+z+z, api.ErrForm)
		}
	}
}

func TestP1802ApplyToWhatIsNotValid(t *testing.T) {
	d, _ := Diff(Blank(3, 2), lettered(3, 2))
	all, _ := Diff(Blank(2, 1), lettered(3, 2))
	for i, a := range wrongs() {
		for _, b := range []string{d, all, "", "x"} {
			refuses(t, i, a, b, api.ErrArg)
		}
	}
}

// Each cut of a difference, each byte of it turned to each other one, each byte that goes or comes in: as the model says, and what is laid otherwise is refused.
func TestP1802ApplyOfEachTurnedByte(t *testing.T) {
	a := texted(2, "abcd")
	b := turned(texted(2, "axyd"), func(s *api.Screen) {
		s.X, s.Y, s.Hidden = 1, 1, true
		s.Cells[0].Rune, s.Cells[2].Attr = 0x20ac, api.Attr{Fg: 16, Under: true}
		s.Cells[2].Rune = 'c'
		s.Cells[1] = a.Cells[1]
	})
	for _, from := range []api.Screen{a, Blank(3, 1)} {
		d, _ := Diff(from, b)
		good := 0
		for i := range len(d) {
			refuses(t, "a cut", from, d[:i], api.ErrForm)
			judged(t, "a byte goes", from, d[:i]+d[i+1:])
			for n := range 256 {
				s := string([]byte{byte(n)})
				if judged(t, "a byte is turned", from, d[:i]+s+d[i+1:]) {
					good++
				}
				judged(t, "a byte comes in", from, d[:i]+s+d[i:])
			}
		}
		for n := range 256 {
			refuses(t, "a byte behind", from, d+string([]byte{byte(n)}), api.ErrForm)
		}
		refuses(t, "twice", from, d+d, api.ErrForm)
		if good < 100 {
			t.Errorf("only %d turned ones may be", good)
		}
	}
}

// Texts that begin as a difference does, of the bytes that mean something in one.
func TestP1802ApplyOfShortTexts(t *testing.T) {
	a := texted(2, "\x00\x01")
	good := 0
	var try func(d string, left int)
	try = func(d string, left int) {
		if judged(t, "a short text", a, d) {
			good++
		}
		if left == 0 {
			return
		}
		for _, b := range []string{"\x00", "\x01", "\x02", "\x80"} {
			try(d+b, left-1)
		}
	}
	try("\x02\x01\x00\x00\x00", 8)
	if good < 50 {
		t.Errorf("only %d may be", good)
	}
}

func TestP1802ApplyIsItsOwn(t *testing.T) {
	a := lettered(3, 2)
	for _, b := range []api.Screen{copied(a), turned(a, func(s *api.Screen) { s.Cells[4].Rune = 'z' }), Blank(2, 2)} {
		d, _ := Diff(a, b)
		s, _ := Apply(a, d)
		other, _ := Apply(a, d)
		for place := range s.Cells {
			s.Cells[place] = api.Cell{Rune: '!'}
		}
		if !alike(a, lettered(3, 2)) || !alike(other, b) {
			t.Errorf("what was handed in, or told ahead, is %+v, %+v", a, other)
		}
		s, _ = Apply(a, d)
		for place := range a.Cells {
			a.Cells[place] = api.Cell{Rune: '!'}
		}
		if !alike(s, b) {
			t.Errorf("what was told is %+v", s)
		}
		a = lettered(3, 2)
	}
}

// comesBack holds Diff, Size and Apply to each other.
func comesBack(t *testing.T, what any, a, b api.Screen) {
	t.Helper()
	d := diffBytes(a, b)
	lays(t, what, a, b, d, api.OK)
	makes(t, what, a, d, b)
	if n := Size(a, b); n != countChanged(a, b) {
		t.Errorf("%v: Size is %d, not %d", what, n, countChanged(a, b))
	}
}

func TestP1803ApplyOfDiff(t *testing.T) {
	for seed := range 3000 {
		next := randoms(seed)
		a := drawn(lettered(2+next(8), 1+next(6)), next)
		b := drawn(a, next)
		comesBack(t, seed, a, b)
		comesBack(t, seed, b, a)
	}
}

// A difference of other screens is read as the model says: it is refused, or it is just what Diff lays here too.
func TestP1803ApplyOfAnotherDiff(t *testing.T) {
	good := 0
	for seed := range 3000 {
		next := randoms(seed)
		a := drawn(lettered(3, 2), next)
		b := drawn(a, next)
		other := drawn(a, next)
		d, _ := Diff(other, b)
		if judged(t, seed, a, d) {
			good++
		}
	}
	if good < 100 || good > 2900 {
		t.Errorf("%d may be", good)
	}
}

func TestP1803ApplyOfEachSize(t *testing.T) {
	sizes := [][2]int{{2, 1}, {2, 20}, {40, 1}, {40, 20}, {3, 2}, {2, 3}, {6, 1}, {39, 19}}
	for _, was := range sizes {
		for _, is := range sizes {
			comesBack(t, []any{was, is}, lettered(was[0], was[1]), turned(Blank(is[0], is[1]), func(s *api.Screen) { s.X, s.Y = is[0]-1, is[1]-1 }))
		}
	}
}

// What a terminal shows, whatever it is sent, is brought over step by step by differences alone.
func TestP1803ScreensOfATerminal(t *testing.T) {
	parts := []string{"abc", "\r\n", "\x1b[2J", "\x1b[7;38;5;9m", "\x1b[0m", "\x1b[3;4H", "\x1b[?25l", "\x1b[?25h", "\x1b[?1049h", "\x1b[?1049l", "\x1b[2L", "\xe2\x82\xac", "\xff", "\x1b(0qqq\x1b(B", "\x1bM", "\x1bc"}
	for seed := range 40 {
		next := randoms(seed)
		e := emu.New(2+next(12), 1+next(8))
		shown := e.Screen()
		for i := range 100 {
			e.Feed(parts[next(len(parts))])
			if next(20) == 0 {
				e.Size(2+next(12), 1+next(8))
			}
			is := e.Screen()
			if !Valid(is) {
				t.Fatalf("%d, %d: not Valid: %+v", seed, i, is)
			}
			comesBack(t, []int{seed, i}, shown, is)
			d, _ := Diff(shown, is)
			shown, _ = Apply(shown, d)
			if !Same(shown, is) {
				t.Fatalf("%d, %d: another one is shown: %+v", seed, i, shown)
			}
		}
	}
}
