package grid

import (
	"math"
	"slices"
	"testing"

	"pontoon/api"
)

// kept tells what is at a place of a Grid that was lettered, w wide and h high, and is of another size now.
func kept(w, h int) func(x, y int) api.Cell {
	return func(x, y int) api.Cell {
		if x < w && y < h {
			return letter(y*w + x)
		}
		return blank
	}
}

func TestP1503Size(t *testing.T) {
	sizes := [][2]int{{2, 1}, {2, 20}, {40, 1}, {40, 20}, {3, 2}, {4, 3}, {3, 4}, {4, 2}, {5, 5}, {39, 19}}
	for _, was := range sizes {
		for _, is := range sizes {
			g := lettered(t, was[0], was[1])
			g.Size(is[0], is[1])
			holdsEach(t, []any{was, is}, g, is[0], is[1], kept(was[0], was[1]))
		}
	}
}

func TestP1503SizeBeyondTheEnds(t *testing.T) {
	for _, c := range []struct{ w, h, hasW, hasH int }{
		{0, 0, 2, 1}, {1, 0, 2, 1}, {-5, 2, 2, 2}, {3, -5, 3, 1}, {41, 21, 40, 20}, {41, 2, 40, 2}, {3, 21, 3, 20},
		{math.MinInt, math.MaxInt, 2, 20}, {math.MaxInt, math.MinInt, 40, 1}, {1 << 32, 1 << 32, 40, 20},
	} {
		g := lettered(t, 4, 3)
		g.Size(c.w, c.h)
		holdsEach(t, c, g, c.hasW, c.hasH, kept(4, 3))
	}
}

// A cell that a lesser size had no place for does not come back with a greater one.
func TestP1503SizeLetsGo(t *testing.T) {
	g := lettered(t, 4, 3)
	g.Size(2, 2)
	g.Size(5, 4)
	holdsEach(t, "lesser, greater", g, 5, 4, func(x, y int) api.Cell {
		if x < 2 && y < 2 {
			return letter(y*4 + x)
		}
		return blank
	})
}

// What a Grid was made of, and what it told ahead, stays when its size turns and it is written to.
func TestP1503SizeIsItsOwn(t *testing.T) {
	g := lettered(t, 4, 3)
	other, told := g.Copy(), g.Cells()
	g.Size(4, 3)
	g.Fill(0, 12, mark)
	holds(t, "another one", other, 4, 3, letters(12))
	if !slices.Equal(told, letters(12)) {
		t.Errorf("what was told is %v", told)
	}
}

func TestP1503Cells(t *testing.T) {
	g := lettered(t, 3, 2)
	told := g.Cells()
	if !slices.Equal(told, letters(6)) {
		t.Errorf("%v", told)
	}
	told[0] = mark
	_ = append(told, mark)
	holds(t, "what was told changed", g, 3, 2, letters(6))
	told = g.Cells()
	g.Set(0, 0, mark)
	if told[0] != letter(0) {
		t.Errorf("what was told is %v", told)
	}
}

func TestP1503Text(t *testing.T) {
	g := New(3, 4)
	if l := g.Text(); !slices.Equal(l, []string{"   ", "   ", "   ", "   "}) {
		t.Errorf("a new one: %q", l)
	}
	g.Set(0, 0, api.Cell{Rune: 'a', Attr: mark.Attr}, api.Cell{Rune: 0x20ac}, api.Cell{Rune: 0x1f600})
	g.Set(1, 1, api.Cell{Rune: -1}, api.Cell{Rune: 0xd800})
	g.Set(0, 2, api.Cell{}, api.Cell{Rune: 0x110000, Attr: api.Attr{Fg: 99}}, api.Cell{Rune: 0x10ffff})
	want := []string{"a\u20ac\U0001f600", " \ufffd\ufffd", "\x00\ufffd\U0010ffff", "   "}
	l := g.Text()
	if !slices.Equal(l, want) {
		t.Errorf("%q, not %q", l, want)
	}
	l[0] = "another"
	if l = g.Text(); !slices.Equal(l, want) {
		t.Errorf("what was told changed: %q", l)
	}
}

func TestP1503TextIsRowByRow(t *testing.T) {
	if l := lettered(t, 4, 3).Text(); !slices.Equal(l, []string{"abcd", "efgh", "ijkl"}) {
		t.Errorf("%q", l)
	}
}

func TestP1503Copy(t *testing.T) {
	g := lettered(t, 4, 3)
	other := g.Copy()
	holds(t, "the copy", other, 4, 3, letters(12))
	other.Fill(0, 12, mark)
	other.Size(2, 1)
	holds(t, "what was copied", g, 4, 3, letters(12))
	other = g.Copy()
	g.Up(0, 3, 3, mark)
	g.Size(40, 20)
	holds(t, "the copy of what changed", other, 4, 3, letters(12))
}

// saysNothing holds one that has no cells to zero values, whatever was asked of it.
func saysNothing(t *testing.T, what string, g *Grid) {
	t.Helper()
	for _, n := range append(slices.Clone(far), -1, 0, 1, 2) {
		g.Fill(0, n, mark)
		g.Up(0, n, 1, mark)
		g.Up(0, 1, n, mark)
		g.Down(0, n, 1, mark)
		g.Down(0, 1, n, mark)
		g.Right(0, 0, n, mark)
		g.Left(0, 0, n, mark)
		g.Right(n, n, 1, mark)
		g.Left(n, n, 1, mark)
		if c, k := g.At(n, 0), g.Set(0, n, mark, mark); c != (api.Cell{}) || k != 0 {
			t.Errorf("%s: At is %v, Set %d", what, c, k)
		}
	}
	if c, k := g.At(0, 0), g.Set(0, 0, mark); c != (api.Cell{}) || k != 0 {
		t.Errorf("%s: At is %v, Set %d", what, c, k)
	}
	if w, h, cells, text, other := g.W(), g.H(), g.Cells(), g.Text(), g.Copy(); w != 0 || h != 0 || len(cells) != 0 || len(text) != 0 || other != nil {
		t.Errorf("%s: %d, %d, %v, %q, %v", what, w, h, cells, text, other)
	}
}

func TestP1503Nil(t *testing.T) {
	var g *Grid
	saysNothing(t, "nil", g)
	g.Size(3, 3)
	saysNothing(t, "nil, sized", g)
}

func TestP1503Zero(t *testing.T) {
	for _, c := range []struct{ w, h, hasW, hasH int }{{3, 2, 3, 2}, {0, 0, 2, 1}, {math.MaxInt, math.MaxInt, 40, 20}} {
		var g Grid
		saysNothing(t, "zero", &g)
		g.Size(c.w, c.h)
		holdsEach(t, "zero, sized", &g, c.hasW, c.hasH, func(x, y int) api.Cell { return blank })
		if n := g.Set(0, 0, mark); n != 1 || g.At(0, 0) != mark {
			t.Errorf("Set is %d, At %v", n, g.At(0, 0))
		}
	}
}
