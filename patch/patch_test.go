package patch

import (
	"math"
	"slices"
	"testing"

	"pontoon/api"
)

// far are numbers beyond all ends, such that a product of them may come back within the ends.
var far = []int{math.MinInt, math.MinInt + 1, math.MinInt / 2, -1 << 32, -1000, 1000, 1 << 32, 1<<32 + 2, math.MaxInt / 4, math.MaxInt/2 + 1, math.MaxInt - 1, math.MaxInt}

// about tells all numbers from a bit below 0 to a bit above n, and the far ones.
func about(n int) []int {
	l := slices.Clone(far)
	for i := -3; i <= n+3; i++ {
		l = append(l, i)
	}
	return l
}

// letter tells a cell that is of that place alone.
func letter(place int) api.Cell {
	return api.Cell{Rune: rune('a' + place), Attr: api.Attr{Fg: place % 17, Bg: place / 17 % 17, Bold: place%2 == 1, Under: place%3 == 1, Inverse: place%5 == 1}}
}

// lettered makes a Valid screen whose cells are each another one.
func lettered(w, h int) api.Screen {
	s := api.Screen{W: w, H: h}
	for place := range w * h {
		s.Cells = append(s.Cells, letter(place))
	}
	return s
}

// texted makes a screen of one row, or of more, whose cells have these runes.
func texted(w int, text string) api.Screen {
	s := api.Screen{W: w}
	for _, r := range text {
		s.Cells = append(s.Cells, api.Cell{Rune: r})
	}
	s.H = len(s.Cells) / w
	return s
}

func copied(s api.Screen) api.Screen {
	s.Cells = slices.Clone(s.Cells)
	return s
}

// turned makes another screen of one that stays as it is.
func turned(s api.Screen, turn func(s *api.Screen)) api.Screen {
	s = copied(s)
	turn(&s)
	return s
}

// alike holds two screens against each other, field by field, and says nothing by what is tested.
func alike(a, b api.Screen) bool {
	if len(a.Cells) != len(b.Cells) {
		return false
	}
	for i := range a.Cells {
		if a.Cells[i] != b.Cells[i] {
			return false
		}
	}
	return a.W == b.W && a.H == b.H && a.X == b.X && a.Y == b.Y && a.Hidden == b.Hidden
}

// wrongs tells screens that are not Valid, each for one cause alone.
func wrongs() []api.Screen {
	good := lettered(3, 2)
	turns := []func(s *api.Screen){
		func(s *api.Screen) { *s = api.Screen{} },
		func(s *api.Screen) { s.Cells = nil },
		func(s *api.Screen) { s.Cells = s.Cells[:5] },
		func(s *api.Screen) { s.Cells = append(s.Cells, letter(6)) },
		func(s *api.Screen) { s.W, s.H = 6, 0 },
		func(s *api.Screen) { s.W, s.H = 1, 6 },
		func(s *api.Screen) { s.W, s.H = -3, -2 },
		func(s *api.Screen) { *s = lettered(41, 1) },
		func(s *api.Screen) { *s = lettered(2, 21) },
		func(s *api.Screen) { s.X = 3 },
		func(s *api.Screen) { s.X = -1 },
		func(s *api.Screen) { s.Y = 2 },
		func(s *api.Screen) { s.Y = -1 },
		func(s *api.Screen) { s.Cells[0].Rune = -1 },
		func(s *api.Screen) { s.Cells[5].Rune = 0x110000 },
		func(s *api.Screen) { s.Cells[3].Attr.Fg = 17 },
		func(s *api.Screen) { s.Cells[3].Attr.Bg = -1 },
	}
	var l []api.Screen
	for _, turn := range turns {
		l = append(l, turned(good, turn))
	}
	return l
}

func TestP1801ValidSizes(t *testing.T) {
	for _, w := range about(40) {
		for _, h := range about(20) {
			s, want := api.Screen{W: w, H: h}, w >= 2 && w <= 40 && h >= 1 && h <= 20
			if Valid(s) {
				t.Errorf("%d, %d without cells is Valid", w, h)
			}
			n := w * h
			if n < 0 || n > 10000 {
				continue
			}
			s.Cells = make([]api.Cell, n)
			if Valid(s) != want {
				t.Errorf("%d, %d is Valid: %v", w, h, !want)
			}
			s.Cells = make([]api.Cell, n+1)
			if Valid(s) || n > 0 && Valid(api.Screen{W: w, H: h, Cells: s.Cells[:n-1]}) {
				t.Errorf("%d, %d is Valid with a cell more, or less", w, h)
			}
		}
	}
}

func TestP1801ValidCursor(t *testing.T) {
	for _, size := range [][2]int{{2, 1}, {3, 5}, {5, 3}, {40, 20}} {
		s := lettered(size[0], size[1])
		for _, x := range about(40) {
			for _, y := range about(20) {
				s.X, s.Y = x, y
				want := x >= 0 && x < s.W && y >= 0 && y < s.H
				for _, s.Hidden = range []bool{false, true} {
					if Valid(s) != want {
						t.Errorf("%v with the cursor at %d, %d is Valid: %v", size, x, y, !want)
					}
				}
			}
		}
	}
}

func TestP1801ValidCells(t *testing.T) {
	for place := range 12 {
		s := lettered(4, 3)
		holds := func(c api.Cell, want bool) {
			t.Helper()
			s.Cells[place] = c
			if Valid(s) != want {
				t.Errorf("with %+v at %d it is Valid: %v", c, place, !want)
			}
		}
		for _, r := range []rune{0, 1, 27, 32, 127, 128, 0xd7ff, 0xd800, 0xdfff, 0xe000, 0xfffd, 0x10fffe, 0x10ffff} {
			holds(api.Cell{Rune: r}, true)
		}
		for _, r := range []rune{-1, -32, math.MinInt32, 0x110000, 0x110001, math.MaxInt32} {
			holds(api.Cell{Rune: r}, false)
		}
		for _, n := range about(16) {
			want := n >= 0 && n <= 16
			holds(api.Cell{Rune: 'a', Attr: api.Attr{Fg: n, Bold: true}}, want)
			holds(api.Cell{Rune: 'a', Attr: api.Attr{Bg: n, Under: true, Inverse: true}}, want)
			holds(api.Cell{Attr: api.Attr{Fg: 16, Bg: n}}, want)
		}
	}
}

func TestP1801ValidOfWrongs(t *testing.T) {
	for i, s := range wrongs() {
		if Valid(s) {
			t.Errorf("the wrong one %d is Valid: %+v", i, s)
		}
	}
}

func TestP1801Same(t *testing.T) {
	good := lettered(4, 3)
	good.X, good.Y = 1, 1
	others := []api.Screen{
		good, lettered(4, 3), lettered(3, 4), lettered(2, 6), lettered(12, 1), lettered(4, 2), lettered(40, 20), Blank(4, 3), Blank(2, 1),
		turned(good, func(s *api.Screen) { s.W = 12 }), turned(good, func(s *api.Screen) { s.H = 4 }),
		turned(good, func(s *api.Screen) { s.X = 2 }), turned(good, func(s *api.Screen) { s.Y = 2 }),
		turned(good, func(s *api.Screen) { s.X, s.Y = 2, 0 }), turned(good, func(s *api.Screen) { s.Hidden = true }),
	}
	for place := range 12 {
		for _, turn := range []func(c *api.Cell){
			func(c *api.Cell) { c.Rune++ }, func(c *api.Cell) { c.Attr.Fg++ }, func(c *api.Cell) { c.Attr.Bg++ },
			func(c *api.Cell) { c.Attr.Bold = !c.Attr.Bold }, func(c *api.Cell) { c.Attr.Under = !c.Attr.Under }, func(c *api.Cell) { c.Attr.Inverse = !c.Attr.Inverse },
		} {
			others = append(others, turned(good, func(s *api.Screen) { turn(&s.Cells[place]) }))
		}
	}
	others = append(others, wrongs()...)
	for i, a := range others {
		if !Same(a, a) || !Same(a, copied(a)) {
			t.Errorf("%d is not the Same as itself", i)
		}
		for k, b := range others {
			if Same(a, b) != alike(a, b) || Same(a, b) != (i == k) {
				t.Errorf("%d and %d are the Same: %v", i, k, Same(a, b))
			}
		}
	}
}

// A list that has nothing may be nil: both are one.
func TestP1801SameOfNoCells(t *testing.T) {
	if a, b := (api.Screen{W: 3}), (api.Screen{W: 3, Cells: []api.Cell{}}); !Same(a, b) || !Same(b, a) || !Same(api.Screen{}, api.Screen{}) {
		t.Error("screens without cells are not the Same")
	}
}

func TestP1801Blank(t *testing.T) {
	for _, w := range about(40) {
		for _, h := range about(20) {
			want := api.Screen{W: min(max(w, 2), 40), H: min(max(h, 1), 20)}
			for range want.W * want.H {
				want.Cells = append(want.Cells, api.Cell{Rune: 32})
			}
			if s := Blank(w, h); !alike(s, want) || !Valid(s) || !Same(s, want) {
				t.Errorf("Blank(%d, %d) is %+v", w, h, s)
			}
		}
	}
}

func TestP1801BlankIsNewEachTime(t *testing.T) {
	s, other := Blank(3, 2), Blank(3, 2)
	s.Cells[0] = letter(0)
	if empty := (api.Cell{Rune: 32}); other.Cells[0] != empty || Blank(3, 2).Cells[0] != empty {
		t.Error("a Blank one shares its cells")
	}
}
