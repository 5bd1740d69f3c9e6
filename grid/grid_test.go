package grid

import (
	"math"
	"slices"
	"testing"

	"pontoon/api"
)

var blank = api.Cell{Rune: 32}

// mark is a cell that no lettered Grid has.
var mark = api.Cell{Rune: '.', Attr: api.Attr{Fg: 3, Bg: 16, Bold: true, Under: true, Inverse: true}}

// far are places and counts beyond all ends, such that a product of them may go beyond an int, and come back within the ends.
var far = []int{math.MinInt, math.MinInt + 1, math.MinInt / 2, math.MinInt/2 + 1, math.MinInt/3 - 1, -1 << 32, -1000, 1000, 1 << 32, math.MaxInt / 4, math.MaxInt/4 + 1, math.MaxInt/3 + 1, math.MaxInt / 2, math.MaxInt/2 + 1, math.MaxInt - 1, math.MaxInt}

// about tells all numbers from a bit below 0 to a bit above n, and the far ones.
func about(n int) []int {
	l := slices.Clone(far)
	for i := -3; i <= n+3; i++ {
		l = append(l, i)
	}
	return l
}

// letter tells a cell that is of that place alone.
func letter(place int) api.Cell {
	return api.Cell{Rune: rune('a' + place), Attr: api.Attr{Fg: place % 17, Bold: place%2 == 1}}
}

// letters tells n cells, each another one.
func letters(n int) []api.Cell {
	var l []api.Cell
	for i := range n {
		l = append(l, letter(i))
	}
	return l
}

// lettered makes a Grid whose cells are each another one.
func lettered(t *testing.T, w, h int) *Grid {
	t.Helper()
	g, err := Of(api.Screen{W: w, H: h, Cells: letters(w * h)})
	if g == nil || err != api.OK {
		t.Fatalf("Of %d, %d: %v, %d", w, h, g, err)
	}
	return g
}

// holds tells whether a Grid has such ends and cells, whichever call is asked.
func holds(t *testing.T, what any, g *Grid, w, h int, cells []api.Cell) {
	t.Helper()
	if g.W() != w || g.H() != h || !slices.Equal(g.Cells(), cells) {
		t.Errorf("%v: %d, %d, %v, not %d, %d, %v", what, g.W(), g.H(), g.Cells(), w, h, cells)
		return
	}
	for y := -1; y <= h; y++ {
		for x := -1; x <= w; x++ {
			var want api.Cell
			if x >= 0 && x < w && y >= 0 && y < h {
				want = cells[y*w+x]
			}
			if c := g.At(x, y); c != want {
				t.Errorf("%v: At(%d, %d) is %v, not %v", what, x, y, c, want)
			}
		}
	}
}

// holdsEach tells whether a Grid has at each place what want tells of it.
func holdsEach(t *testing.T, what any, g *Grid, w, h int, want func(x, y int) api.Cell) {
	t.Helper()
	var cells []api.Cell
	for y := range h {
		for x := range w {
			cells = append(cells, want(x, y))
		}
	}
	holds(t, what, g, w, h, cells)
}

func TestP1501New(t *testing.T) {
	end := func(n, least, most int) int {
		switch {
		case n < least:
			return least
		case n > most:
			return most
		}
		return n
	}
	for _, w := range about(40) {
		for _, h := range about(20) {
			holdsEach(t, []int{w, h}, New(w, h), end(w, 2, 40), end(h, 1, 20), func(x, y int) api.Cell { return blank })
		}
	}
}

func TestP1501NewIsNewEachTime(t *testing.T) {
	g, other := New(3, 2), New(3, 2)
	g.Fill(0, 6, mark)
	holdsEach(t, "another one", other, 3, 2, func(x, y int) api.Cell { return blank })
	holdsEach(t, "one more", New(3, 2), 3, 2, func(x, y int) api.Cell { return blank })
}

func TestP1501Of(t *testing.T) {
	for w := 2; w <= 40; w++ {
		for h := 1; h <= 20; h++ {
			cells := letters(w * h)
			g, err := Of(api.Screen{W: w, H: h, Cells: slices.Clone(cells), X: 1 << 40, Y: -1, Hidden: true})
			if err != api.OK {
				t.Errorf("Of %d, %d: %d", w, h, err)
			}
			holds(t, []int{w, h}, g, w, h, cells)
		}
	}
}

// Of looks at ends and counts alone: any cells are kept just as they are.
func TestP1501OfAnyCells(t *testing.T) {
	cells := []api.Cell{{}, {Rune: -1, Attr: api.Attr{Fg: -1, Bg: 17}}, {Rune: math.MaxInt32}, {Rune: 0xd800, Attr: api.Attr{Fg: math.MinInt}}}
	g, err := Of(api.Screen{W: 2, H: 2, Cells: slices.Clone(cells)})
	if err != api.OK {
		t.Errorf("%d", err)
	}
	holds(t, "any cells", g, 2, 2, cells)
}

func TestP1501OfIsItsOwn(t *testing.T) {
	cells := letters(12)
	g, _ := Of(api.Screen{W: 4, H: 3, Cells: cells})
	cells[0] = mark
	holds(t, "what was handed in changed", g, 4, 3, letters(12))
	cells = letters(12)
	g, _ = Of(api.Screen{W: 4, H: 3, Cells: cells})
	g.Fill(0, 12, mark)
	if !slices.Equal(cells, letters(12)) {
		t.Errorf("what was handed in is %v", cells)
	}
}

func TestP1501OfRefuses(t *testing.T) {
	refuses := func(w, h, n int) {
		t.Helper()
		if g, err := Of(api.Screen{W: w, H: h, Cells: letters(n)}); g != nil || err != api.ErrArg {
			t.Errorf("Of %d, %d with %d cells: %v, %d", w, h, n, g, err)
		}
	}
	for _, c := range [][2]int{{1, 1}, {0, 0}, {0, 1}, {1, 20}, {41, 1}, {41, 20}, {2, 0}, {40, 0}, {2, 21}, {40, 21}, {20, 40}} {
		refuses(c[0], c[1], c[0]*c[1])
	}
	for _, c := range [][3]int{{2, 1, 0}, {2, 1, 1}, {2, 1, 3}, {4, 3, 11}, {4, 3, 13}, {40, 20, 799}, {40, 20, 801}, {3, 3, 12}} {
		refuses(c[0], c[1], c[2])
	}
	for _, c := range [][3]int{{-2, -1, 2}, {-4, -3, 12}, {-2, 1, 0}, {2, -1, 0}, {1 << 32, 1 << 32, 0}, {1 << 63 >> 1, 4, 0}, {math.MaxInt, math.MaxInt, 1}, {math.MinInt, 2, 0}, {2, math.MinInt, 0}, {2, 1 << 62, 0}} {
		refuses(c[0], c[1], c[2])
	}
}

func TestP1501AtOutside(t *testing.T) {
	g := lettered(t, 4, 3)
	for _, n := range append(slices.Clone(far), -1, -4) {
		for k := range 4 {
			if a, b := g.At(n, k), g.At(k, n); a != (api.Cell{}) || b != (api.Cell{}) {
				t.Errorf("%v, %v stand at %d and %d", a, b, n, k)
			}
		}
	}
	// A place that another row has, or the one behind the last row.
	for _, c := range [][2]int{{4, 0}, {5, 1}, {-1, 1}, {-4, 2}, {0, 3}, {3, 3}, {12, 0}} {
		if a := g.At(c[0], c[1]); a != (api.Cell{}) {
			t.Errorf("%v stands at %v", a, c)
		}
	}
}

func TestP1501Set(t *testing.T) {
	const w, h = 4, 3
	was := letters(w * h)
	for _, x := range about(w) {
		for _, y := range about(h) {
			for n := range 2 * w {
				g := lettered(t, w, h)
				var l []api.Cell
				for i := range n {
					l = append(l, letter(100+i))
				}
				in := slices.Clone(l)
				count, want := 0, slices.Clone(was)
				for i := range n {
					if x >= 0 && x < w && y >= 0 && y < h && x+i < w {
						want[y*w+x+i] = l[i]
						count++
					}
				}
				if got := g.Set(x, y, l...); got != count {
					t.Errorf("Set(%d, %d) of %d is %d, not %d", x, y, n, got, count)
				}
				holds(t, []int{x, y, n}, g, w, h, want)
				if !slices.Equal(l, in) {
					t.Errorf("Set changed %v into %v", in, l)
				}
			}
		}
	}
}

func TestP1501SetKeepsNothing(t *testing.T) {
	g, l := New(3, 1), letters(3)
	if n := g.Set(0, 0, l...); n != 3 {
		t.Errorf("Set is %d", n)
	}
	l[0], l[2] = mark, mark
	holds(t, "what was handed in changed", g, 3, 1, letters(3))
}

func TestP1501Fill(t *testing.T) {
	const w, h = 4, 3
	for _, from := range about(w * h) {
		for _, to := range about(w * h) {
			g := lettered(t, w, h)
			g.Fill(from, to, mark)
			holdsEach(t, []int{from, to}, g, w, h, func(x, y int) api.Cell {
				if place := y*w + x; place < from || place >= to {
					return letter(place)
				}
				return mark
			})
		}
	}
}
