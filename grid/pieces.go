package grid

import "pontoon/api"

// What places, rows and rest tell are the Grid's own cells, not copies of them: they are written through, and never handed out.

// places tells the cells of which both ends are given by their places, as far as they are there.
func (g *Grid) places(from, to int) []api.Cell {
	if g == nil {
		return nil
	}
	from, to = max(from, 0), min(to, len(g.cells))
	if from >= to {
		return nil
	}
	return g.cells[from:to]
}

// rows tells the cells of rows, as far as they are there.
func (g *Grid) rows(top, bottom int) []api.Cell {
	top, bottom = max(top, 0), min(bottom, g.H())
	if top >= bottom { // and so no row is multiplied that is far beyond the ends
		return nil
	}
	return g.places(top*g.W(), bottom*g.W())
}

// rest tells the cells of a row from one of them on; none, if that one is outside.
func (g *Grid) rest(x, y int) []api.Cell {
	if x < 0 || x >= g.W() || y < 0 || y >= g.H() {
		return nil
	}
	return g.places(y*g.W()+x, (y+1)*g.W())
}

// cellsOf tells how many cells so many rows have. More rows than there are would only make the product go beyond what an int holds.
func (g *Grid) cellsOf(rows int) int { return within(rows, 0, g.H()) * g.W() }

// toFront moves all of l to its front, so that the first n go, and what comes in behind is c.
func toFront(l []api.Cell, n int, c api.Cell) {
	n = within(n, 0, len(l))
	copy(l, l[n:])
	fill(l[len(l)-n:], c)
}

// toBack moves all of l to its back, so that the last n go, and what comes in ahead is c.
func toBack(l []api.Cell, n int, c api.Cell) {
	n = within(n, 0, len(l))
	copy(l[n:], l)
	fill(l[:n], c)
}

func fill(l []api.Cell, c api.Cell) {
	for i := range l {
		l[i] = c
	}
}

// within tells n, or the end that is nearer to it.
func within(n, least, most int) int { return min(max(n, least), most) }
