package grid

import (
	"testing"

	"pontoon/api"
)

// moved tells what comes to the place at of those from first on and below last, when all go by n to lesser places (or to greater ones): the place that it comes from, or that it is new.
func moved(at, first, last, n int, lesser bool) (int, bool) {
	switch {
	case n < 1:
		return at, false
	case lesser && n < last-at:
		return at + n, false
	case !lesser && n <= at-first:
		return at - n, false
	}
	return 0, true
}

// rowsMove holds Up, or Down, to what each row is to be.
func rowsMove(t *testing.T, w, h int, up bool) {
	t.Helper()
	for _, top := range about(h) {
		for _, bottom := range about(h) {
			for _, n := range about(h) {
				g := lettered(t, w, h)
				if up {
					g.Up(top, bottom, n, mark)
				} else {
					g.Down(top, bottom, n, mark)
				}
				first, last := max(top, 0), min(bottom, h)
				holdsEach(t, []any{"rows", up, top, bottom, n}, g, w, h, func(x, y int) api.Cell {
					if y < first || y >= last {
						return letter(y*w + x)
					}
					if from, fresh := moved(y, first, last, n, up); !fresh {
						return letter(from*w + x)
					}
					return mark
				})
			}
		}
	}
}

func TestP1502Up(t *testing.T) {
	rowsMove(t, 2, 1, true)
	rowsMove(t, 3, 5, true)
	rowsMove(t, 4, 3, true)
}

func TestP1502Down(t *testing.T) {
	rowsMove(t, 2, 1, false)
	rowsMove(t, 3, 5, false)
	rowsMove(t, 4, 3, false)
}

// cellsMove holds Left, or Right, to what each cell is to be.
func cellsMove(t *testing.T, w, h int, left bool) {
	t.Helper()
	for _, x := range about(w) {
		for _, y := range about(h) {
			for _, n := range about(w) {
				g := lettered(t, w, h)
				if left {
					g.Left(x, y, n, mark)
				} else {
					g.Right(x, y, n, mark)
				}
				holdsEach(t, []any{"cells", left, x, y, n}, g, w, h, func(at, row int) api.Cell {
					if row != y || x < 0 || at < x {
						return letter(row*w + at)
					}
					if from, fresh := moved(at, x, w, n, left); !fresh {
						return letter(row*w + from)
					}
					return mark
				})
			}
		}
	}
}

func TestP1502Right(t *testing.T) {
	cellsMove(t, 2, 1, false)
	cellsMove(t, 5, 3, false)
}

func TestP1502Left(t *testing.T) {
	cellsMove(t, 2, 1, true)
	cellsMove(t, 5, 3, true)
}

func TestP1502Example(t *testing.T) {
	g := New(2, 2)
	if n := g.Set(0, 1, letter(0), letter(1), letter(2)); n != 2 {
		t.Errorf("Set is %d", n)
	}
	g.Up(0, 2, 1, mark)
	holds(t, "the example", g, 2, 2, []api.Cell{letter(0), letter(1), mark, mark})
}

// The greatest Grid is moved as a small one is, to its last cell.
func TestP1502Greatest(t *testing.T) {
	g := lettered(t, 40, 20)
	g.Up(0, 20, 19, mark)
	g.Down(0, 20, 1, mark)
	g.Right(1, 1, 2, blank)
	g.Left(0, 1, 1, blank)
	holdsEach(t, "the greatest one", g, 40, 20, func(x, y int) api.Cell {
		switch {
		case y != 1:
			return mark
		case x < 2 || x == 39:
			return blank
		}
		return letter(19*40 + x - 1)
	})
}

// plain does each call cell by cell, by the chapter's words, and shares nothing with what a Grid does.
type plain struct {
	w, h  int
	cells map[[2]int]api.Cell
}

func (p *plain) each(does func(x, y int) api.Cell) {
	cells := map[[2]int]api.Cell{}
	for y := range p.h {
		for x := range p.w {
			cells[[2]int{x, y}] = does(x, y)
		}
	}
	p.cells = cells
}

// pick tells a cell that stands there, or else another one.
func (p *plain) pick(x, y int, inside bool, other api.Cell) api.Cell {
	if c, ok := p.cells[[2]int{x, y}]; ok && inside {
		return c
	}
	return other
}

func (p *plain) rows(top, bottom, by int, c api.Cell) {
	p.each(func(x, y int) api.Cell {
		if y < top || y >= bottom {
			return p.cells[[2]int{x, y}]
		}
		return p.pick(x, y+by, y+by >= top && y+by < bottom, c)
	})
}

func (p *plain) row(at, row, by int, c api.Cell) {
	p.each(func(x, y int) api.Cell {
		if y != row || x < at || at < 0 {
			return p.cells[[2]int{x, y}]
		}
		return p.pick(x+by, y, x+by >= at, c)
	})
}

func (p *plain) size(w, h int) {
	p.w, p.h = min(max(w, 2), 40), min(max(h, 1), 20)
	p.each(func(x, y int) api.Cell { return p.pick(x, y, true, blank) })
}

// randoms makes numbers from -2 on and below n less 2 that are the same each time.
func randoms(seed int) func(n int) int {
	x := uint32(seed)
	return func(n int) int {
		x = x*1664525 + 1013904223
		return int(x>>16)%n - 2
	}
}

// Whatever is done to a Grid, and in whatever order, it is what the calls make of it one by one.
func TestP1502EveryOrder(t *testing.T) {
	for seed := range 400 {
		next := randoms(seed)
		w, h := next(12), next(9)
		g, p := New(w, h), &plain{}
		p.size(w, h)
		for i := range 60 {
			a, b, n, c := next(14), next(14), next(8), letter(i)
			switch next(9) {
			case -2:
				g.Up(a, b, n, c)
				p.rows(a, b, max(n, 0), c)
			case -1:
				g.Down(a, b, n, c)
				p.rows(a, b, -max(n, 0), c)
			case 0:
				g.Right(a, b, n, c)
				p.row(a, b, -max(n, 0), c)
			case 1:
				g.Left(a, b, n, c)
				p.row(a, b, max(n, 0), c)
			case 2:
				g.Size(a, b)
				p.size(a, b)
			case 3:
				g.Fill(a, b, c)
				p.each(func(x, y int) api.Cell { return p.pick(x, y, y*p.w+x < a || y*p.w+x >= b, c) })
			case 4:
				g = g.Copy()
			default:
				g.Set(a, b, c, mark)
				p.each(func(x, y int) api.Cell {
					if y == b && a >= 0 && a < p.w && x == a+1 {
						return mark
					}
					return p.pick(x, y, x != a || y != b, c)
				})
			}
			holdsEach(t, []int{seed, i}, g, p.w, p.h, func(x, y int) api.Cell { return p.cells[[2]int{x, y}] })
		}
	}
}
