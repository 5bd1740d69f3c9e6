package emu

import (
	"strconv"

	"pontoon/api"
	"pontoon/cell"
	"pontoon/grid"
)

// Numbers of modes.
const (
	insertMode = 4 // without a Mark; those below are with one

	originMode = 6
	wrapMode   = 7
	cursorMode = 25
	otherMode  = 1049
)

// numbers are those of a Csi.
type numbers []int

// at tells a number; 0, if it lacks, or is not there. Beyond MaxNumber nothing is promised, but nothing may go beyond an int either.
func (n numbers) at(i int) int {
	if i >= len(n) {
		return 0
	}
	return within(n[i], 0, api.MaxNumber)
}

// count tells a number that is at least 1.
func (n numbers) count(i int) int { return max(n.at(i), 1) }

// csi does a Csi; what it replies. With an Inter each is another one, whatever its Mark.
func (e *Emu) csi(a api.Act) string {
	switch {
	case a.Inter != "":
	case a.Mark == 0:
		return e.unmarked(a.Byte, a.Nums)
	case a.Mark == '?' && (a.Byte == 'h' || a.Byte == 'l'):
		e.turnMarked(a.Byte == 'h', a.Nums)
	}
	return ""
}

func (e *Emu) unmarked(b int, nums numbers) string {
	switch b {
	case 'A', 'B', 'C', 'D', 'E', 'F', 'G', 'H', 'd', 'f':
		e.move(b, nums.count(0), nums.count(1))
	case 'J', 'K':
		e.erase(b, nums.at(0))
	case 'X', '@', 'P', 'S', 'T':
		e.edit(b, nums.count(0))
	case 'L', 'M':
		e.moveRows(b, nums.count(0))
	case 'g':
		e.clearStops(nums.at(0))
	case 'r':
		e.limit(nums.count(0)-1, nums.at(1))
	case 'm':
		e.pen = cell.Sgr(e.pen, nums...)
	case 'h', 'l':
		e.turnUnmarked(b == 'h', nums)
	case 's':
		e.save()
	case 'u':
		e.restore()
	case 'n', 'c':
		return e.reply(b, nums.at(0))
	}
	return ""
}

// move does what sets the cursor, and nothing else. What above, below and row tell may be beyond the screen's ends: goTo holds it to them.
func (e *Emu) move(b, n, m int) {
	switch b {
	case 'A':
		e.goTo(e.x, e.above(n))
	case 'B':
		e.goTo(e.x, e.below(n))
	case 'C':
		e.goTo(e.x+n, e.y)
	case 'D':
		e.goTo(e.x-n, e.y)
	case 'E':
		e.goTo(0, e.below(n))
	case 'F':
		e.goTo(0, e.above(n))
	case 'G':
		e.goTo(n-1, e.y)
	case 'd':
		e.goTo(e.x, e.row(n))
	case 'H', 'f':
		e.goTo(m-1, e.row(n))
	}
}

// above tells the row that is n less. From within the region, or below it, no way leads out above it.
func (e *Emu) above(n int) int {
	if e.y < e.top {
		return e.y - n
	}
	return max(e.y-n, e.top)
}

// below tells the row that is n more. From within the region, or above it, no way leads out below it.
func (e *Emu) below(n int) int {
	if e.y >= e.bottom {
		return e.y + n
	}
	return min(e.y+n, e.bottom-1)
}

// row tells the row of a number that counts from 1 on.
func (e *Emu) row(n int) int {
	if e.origin {
		return min(e.top+n-1, e.bottom-1)
	}
	return n - 1
}

func (e *Emu) home() { e.goTo(0, e.row(1)) }

// erase blanks a part of the screen, or of the cursor's row.
func (e *Emu) erase(b, part int) {
	g := e.shown()
	from, to := 0, g.W()*g.H()
	if b == 'K' {
		from, to = e.rowEnds(g)
	}
	at := e.place(g)
	switch part {
	case 0:
		from = at
	case 1:
		to = at + 1
	case 2:
	default:
		return
	}
	g.Fill(from, to, e.blank())
	e.late = false
}

func (e *Emu) edit(b, n int) {
	g, blank := e.shown(), e.blank()
	switch b {
	case 'X':
		at := e.place(g)
		_, end := e.rowEnds(g)
		g.Fill(at, min(at+n, end), blank)
	case '@':
		g.Right(e.x, e.y, n, blank)
	case 'P':
		g.Left(e.x, e.y, n, blank)
	case 'S':
		g.Up(e.top, e.bottom, n, blank)
	case 'T':
		g.Down(e.top, e.bottom, n, blank)
	}
	e.late = false
}

// moveRows moves the rows from the cursor's one to the region's end.
func (e *Emu) moveRows(b, n int) {
	if e.y < e.top || e.y >= e.bottom {
		return
	}
	if b == 'L' {
		e.shown().Down(e.y, e.bottom, n, e.blank())
	} else {
		e.shown().Up(e.y, e.bottom, n, e.blank())
	}
	e.goTo(0, e.y)
}

func (e *Emu) place(g *grid.Grid) int { return e.y*g.W() + e.x }

// rowEnds tells the places of the cursor's row: the first one, and the one behind the last.
func (e *Emu) rowEnds(g *grid.Grid) (int, int) { return e.y * g.W(), (e.y + 1) * g.W() }

func (e *Emu) clearStops(which int) {
	switch which {
	case 0:
		e.stops.Clear(e.x)
	case 3:
		e.stops.None()
	}
}

// limit sets the region, if it has two rows at least; a bottom of 0 is none.
func (e *Emu) limit(top, bottom int) {
	if h := e.shown().H(); bottom == 0 || bottom > h {
		bottom = h
	}
	if top >= bottom-1 {
		return
	}
	e.top, e.bottom = top, bottom
	e.home()
}

func (e *Emu) turnUnmarked(on bool, modes numbers) {
	for _, n := range modes {
		if n == insertMode {
			e.insert = on
		}
	}
}

func (e *Emu) turnMarked(on bool, modes numbers) {
	for _, n := range modes {
		switch n {
		case originMode:
			e.origin = on
			e.home()
		case wrapMode:
			e.autowrap = on
		case cursorMode:
			e.hidden = !on
		case otherMode:
			e.turnOther(on)
		}
	}
}

func (e *Emu) turnOther(on bool) {
	switch {
	case on == e.Alt():
	case on:
		e.save()
		w, h := e.main.W(), e.main.H()
		e.other = grid.New(w, h)
		e.other.Fill(0, w*h, e.blank())
		e.late = false
	default:
		e.other = nil
		e.restore()
	}
}

func (e *Emu) reply(b, n int) string {
	switch {
	case b == 'c' && n == 0:
		return "\x1b[?1;2c"
	case b == 'n' && n == 5:
		return "\x1b[0n"
	case b == 'n' && n == 6:
		return "\x1b[" + strconv.Itoa(e.rowTold()) + ";" + strconv.Itoa(e.x+1) + "R"
	}
	return ""
}

// rowTold tells the cursor's row as row counts it; what was saved may stand above the region.
func (e *Emu) rowTold() int {
	if e.origin {
		return max(e.y+1-e.top, 1)
	}
	return e.y + 1
}
