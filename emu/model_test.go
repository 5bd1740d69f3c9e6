package emu

import (
	"slices"
	"strconv"
	"strings"
	"testing"

	"pontoon/api"
	"pontoon/cell"
	"pontoon/chart"
	"pontoon/esc"
)

// model does each act by the chapter's words, row by row, and shares nothing with what an Emu does but the lower layers' looks and sets.
type model struct {
	w, h        int
	screens     [2][][]api.Cell
	alt         int
	x, y        int
	pen         api.Attr
	sets        [2]byte
	set         int
	origin      bool
	top, bottom int
	stops       []int
	wrap        bool
	insert      bool
	hidden      bool
	late        bool
	saved       savedModel
	replies     string
}

type savedModel struct {
	x, y   int
	pen    api.Attr
	origin bool
	sets   [2]byte
	set    int
}

func end(n, least, most int) int {
	switch {
	case n < least:
		return least
	case n > most:
		return most
	}
	return n
}

func newModel(w, h int) *model {
	m := &model{w: end(w, 2, 40), h: end(h, 1, 20), wrap: true, sets: [2]byte{'B', 'B'}}
	m.saved.sets = m.sets
	m.bottom = m.h
	for i := range m.screens {
		m.screens[i] = m.sized(nil)
	}
	m.eights()
	return m
}

func (m *model) eights() {
	m.stops = nil
	for x := 8; x < m.w; x += 8 {
		m.stops = append(m.stops, x)
	}
}

// sized tells rows of the model's size, with the cells that these have.
func (m *model) sized(was [][]api.Cell) [][]api.Cell {
	var rows [][]api.Cell
	for y := range m.h {
		var row []api.Cell
		for x := range m.w {
			c := api.Cell{Rune: 32}
			if y < len(was) && x < len(was[y]) {
				c = was[y][x]
			}
			row = append(row, c)
		}
		rows = append(rows, row)
	}
	return rows
}

func (m *model) size(w, h int) {
	m.w, m.h = end(w, 2, 40), end(h, 1, 20)
	for i := range m.screens {
		m.screens[i] = m.sized(m.screens[i])
	}
	m.top, m.bottom = 0, m.h
	m.eights()
	m.late = false
	m.within()
}

func (m *model) within() { m.x, m.y = end(m.x, 0, m.w-1), end(m.y, 0, m.h-1) }

func (m *model) rows() [][]api.Cell { return m.screens[m.alt] }

func (m *model) blank() api.Cell {
	return api.Cell{Rune: 32, Attr: api.Attr{Bg: m.pen.Bg}}
}

// turn takes a row away, and lays a blank one, as often as it is asked to.
func (m *model) turn(away, laid, n int) {
	for range n {
		rows := slices.Delete(slices.Clone(m.rows()), away, away+1)
		m.screens[m.alt] = slices.Insert(rows, laid, slices.Repeat([]api.Cell{m.blank()}, m.w))
	}
}

func (m *model) up(top, bottom, n int)   { m.turn(top, bottom-1, min(n, m.h)) }
func (m *model) down(top, bottom, n int) { m.turn(bottom-1, top, min(n, m.h)) }

// turnCells is turn's like of a row.
func (m *model) turnCells(away, laid, n int) {
	for range min(n, m.w) {
		row := slices.Delete(slices.Clone(m.rows()[m.y]), away, away+1)
		m.rows()[m.y] = slices.Insert(row, laid, m.blank())
	}
}

// blankWhere blanks each cell of which is tells so.
func (m *model) blankWhere(is func(x, y int) bool) {
	for y := range m.h {
		for x := range m.w {
			if is(x, y) {
				m.rows()[y][x] = m.blank()
			}
		}
	}
}

func (m *model) index() {
	switch {
	case m.y == m.bottom-1:
		m.up(m.top, m.bottom, 1)
	case m.y < m.h-1:
		m.y++
	}
}

func (m *model) reverse() {
	switch {
	case m.y == m.top:
		m.down(m.top, m.bottom, 1)
	case m.y > 0:
		m.y--
	}
}

func (m *model) save() {
	m.saved = savedModel{m.x, m.y, m.pen, m.origin, m.sets, m.set}
}

func (m *model) restore() {
	s := m.saved
	m.x, m.y, m.pen, m.origin, m.sets, m.set = s.x, s.y, s.pen, s.origin, s.sets, s.set
	m.within()
}

func (m *model) act(a api.Act) {
	was := *m
	did := false
	switch a.Kind {
	case api.Print:
		m.print(a.Rune)
		return
	case api.Control:
		m.control(a.Byte)
	case api.Escape:
		m.escape(a.Inter, a.Byte)
	case api.Csi:
		did = m.csi(a)
	}
	if ends(a, did) {
		m.late = false
	} else if m.late != was.late || m.late && (m.x != was.x || m.y != was.y) {
		panic("the model turns what is late, or moves, by an act that does not end it")
	}
}

// ends tells whether an act is one of the list at which Late ends; did is whether it does something, where that counts.
func ends(a api.Act, did bool) bool {
	name := string(rune(a.Byte))
	switch {
	case a.Kind == api.Control:
		return a.Byte >= 8 && a.Byte <= 13
	case a.Kind == api.Escape:
		return a.Inter == "" && strings.Contains("8DEMc", name)
	case a.Kind == api.Csi && a.Inter == "" && a.Mark == 0:
		return strings.Contains("ABCDEFGHdfX@PSTu", name) || strings.Contains("JKLMr", name) && did
	case a.Kind == api.Csi && a.Inter == "" && a.Mark == '?' && (a.Byte == 'h' || a.Byte == 'l'):
		return slices.Contains(a.Nums, 6) || slices.Contains(a.Nums, 1049) && did
	}
	return false
}

func (m *model) print(r rune) {
	if m.late && m.wrap {
		m.x = 0
		m.index()
	}
	if r < 128 {
		r = chart.Map(m.sets[m.set], r)
	}
	if m.insert {
		m.turnCells(m.w-1, m.x, 1)
	}
	m.rows()[m.y][m.x] = api.Cell{Rune: r, Attr: m.pen}
	m.late = m.x == m.w-1 && m.wrap
	m.x = min(m.x+1, m.w-1)
}

func (m *model) control(b int) {
	switch b {
	case 8:
		m.x = max(m.x-1, 0)
	case 9:
		i := slices.IndexFunc(m.stops, func(x int) bool { return x > m.x })
		if i < 0 {
			m.x = m.w - 1
		} else {
			m.x = m.stops[i]
		}
	case 10, 11, 12:
		m.index()
	case 13:
		m.x = 0
	case 14:
		m.set = 1
	case 15:
		m.set = 0
	}
}

func (m *model) escape(inter string, b int) {
	switch inter + string(rune(b)) {
	case "(B", "(A", "(0":
		m.sets[0] = byte(b)
	case ")B", ")A", ")0":
		m.sets[1] = byte(b)
	case "7":
		m.save()
	case "8":
		m.restore()
	case "D":
		m.index()
	case "E":
		m.x = 0
		m.index()
	case "M":
		m.reverse()
	case "H":
		if !slices.Contains(m.stops, m.x) {
			m.stops = append(m.stops, m.x)
			slices.Sort(m.stops)
		}
	case "c":
		replies := m.replies
		*m = *newModel(m.w, m.h)
		m.replies = replies
	}
}

// csi tells whether it did something, of those of which that counts.
func (m *model) csi(a api.Act) bool {
	switch {
	case a.Inter == "" && a.Mark == 0:
		first, second := 0, 0 // as they are there, or 0
		if len(a.Nums) > 0 {
			first = max(a.Nums[0], 0)
		}
		if len(a.Nums) > 1 {
			second = max(a.Nums[1], 0)
		}
		return m.move(a.Byte, max(first, 1), max(second, 1)) || m.edit(a.Byte, first, max(first, 1)) || m.rest(a, first, second)
	case a.Inter == "" && a.Mark == '?' && (a.Byte == 'h' || a.Byte == 'l'):
		did := false
		for _, n := range a.Nums {
			did = m.mode(n, a.Byte == 'h') || did
		}
		return did
	}
	return false
}

func (m *model) row(n int) int {
	if m.origin {
		return end(m.top+n-1, m.top, m.bottom-1)
	}
	return end(n-1, 0, m.h-1)
}

func (m *model) move(b, n, k int) bool {
	least, most := 0, m.h-1
	if m.y >= m.top {
		least = m.top
	}
	if m.y <= m.bottom-1 {
		most = m.bottom - 1
	}
	switch b {
	case 'A', 'F':
		m.y = max(m.y-n, least)
	case 'B', 'E':
		m.y = min(m.y+n, most)
	case 'C':
		m.x = min(m.x+n, m.w-1)
	case 'D':
		m.x = max(m.x-n, 0)
	case 'G':
		m.x = min(n-1, m.w-1)
	case 'd':
		m.y = m.row(n)
	case 'H', 'f':
		m.x, m.y = min(k-1, m.w-1), m.row(n)
	}
	if b == 'E' || b == 'F' {
		m.x = 0
	}
	return false
}

func (m *model) edit(b, first, n int) bool {
	here := m.y*m.w + m.x
	switch b {
	case 'J':
		m.blankWhere(func(x, y int) bool {
			at := y*m.w + x
			return first == 0 && at >= here || first == 1 && at <= here || first == 2
		})
		return first < 3
	case 'K':
		m.blankWhere(func(x, y int) bool {
			return y == m.y && (first == 0 && x >= m.x || first == 1 && x <= m.x || first == 2)
		})
		return first < 3
	case 'X':
		m.blankWhere(func(x, y int) bool { return y == m.y && x >= m.x && x < m.x+n })
	case '@':
		m.turnCells(m.w-1, m.x, n)
	case 'P':
		m.turnCells(m.x, m.w-1, n)
	case 'S':
		m.up(m.top, m.bottom, n)
	case 'T':
		m.down(m.top, m.bottom, n)
	case 'L', 'M':
		if m.y < m.top || m.y > m.bottom-1 {
			return false
		}
		if b == 'L' {
			m.down(m.y, m.bottom, n)
		} else {
			m.up(m.y, m.bottom, n)
		}
		m.x = 0
		return true
	}
	return false
}

func (m *model) rest(a api.Act, first, second int) bool {
	switch a.Byte {
	case 'g':
		m.stops = slices.DeleteFunc(m.stops, func(x int) bool { return first == 3 || first == 0 && x == m.x })
	case 'r':
		bottom := second
		if bottom == 0 || bottom > m.h {
			bottom = m.h
		}
		if max(first, 1)-1 < bottom-1 {
			m.top, m.bottom = max(first, 1)-1, bottom
			m.home()
			return true
		}
	case 'm':
		m.pen = cell.Sgr(m.pen, a.Nums...)
	case 'h', 'l':
		if slices.Contains(a.Nums, 4) {
			m.insert = a.Byte == 'h'
		}
	case 's':
		m.save()
	case 'u':
		m.restore()
	case 'n':
		row := m.y + 1
		if m.origin {
			row = max(row-m.top, 1)
		}
		switch first {
		case 5:
			m.replies += "\x1b[0n"
		case 6:
			m.replies += "\x1b[" + strconv.Itoa(row) + ";" + strconv.Itoa(m.x+1) + "R"
		}
	case 'c':
		if first == 0 {
			m.replies += "\x1b[?1;2c"
		}
	}
	return false
}

func (m *model) home() {
	m.x, m.y = 0, 0
	if m.origin {
		m.y = m.top
	}
}

func (m *model) mode(n int, on bool) bool {
	switch n {
	case 6:
		m.origin = on
		m.home()
	case 7:
		m.wrap = on
	case 25:
		m.hidden = !on
	case 1049:
		if on == (m.alt == 1) {
			return false
		}
		if on {
			m.save()
			m.alt = 1
			m.blankWhere(func(x, y int) bool { return true })
		} else {
			m.alt = 0
			m.restore()
		}
		return true
	}
	return false
}

// holds tells whether an Emu is as the model, whichever call is asked.
func (m *model) holds(t *testing.T, what any, e *Emu) {
	t.Helper()
	s := e.Screen()
	top, bottom := e.Region()
	if s.W != m.w || s.H != m.h || s.X != m.x || s.Y != m.y || s.Hidden != m.hidden {
		t.Fatalf("%q: %d, %d, cursor %d, %d, hidden %t, not %d, %d, %d, %d, %t", what, s.W, s.H, s.X, s.Y, s.Hidden, m.w, m.h, m.x, m.y, m.hidden)
	}
	if top != m.top || bottom != m.bottom || e.Alt() != (m.alt == 1) || e.late != m.late {
		t.Fatalf("%q: region %d, %d, other screen %t, late %t, not %d, %d, %d, %t", what, top, bottom, e.Alt(), e.late, m.top, m.bottom, m.alt, m.late)
	}
	if !slices.Equal(s.Cells, slices.Concat(m.rows()...)) {
		t.Fatalf("%q: %q, %v, not %v", what, e.Text(), s.Cells, m.rows())
	}
	var text []string
	for _, row := range m.rows() {
		text = append(text, cell.Show(row...))
	}
	if !slices.Equal(e.Text(), text) {
		t.Fatalf("%q: %q, not %q", what, e.Text(), text)
	}
}

// randoms makes numbers below n that are the same each time.
func randoms(seed int) func(n int) int {
	x := uint32(seed)*2654435761 + 1
	return func(n int) int {
		x = x*1664525 + 1013904223
		return int(x>>16) % n
	}
}

func pick(next func(n int) int, l ...string) string { return l[next(len(l))] }

// word makes something that a terminal may be sent: mostly what means something to it.
func word(next func(n int) int) string {
	number := func() string {
		return pick(next, "", "", "0", "1", "1", "2", "2", "3", "4", "5", "6", "7", "9999")
	}
	switch next(12) {
	case 0, 1, 2:
		return pick(next, "abcdefghijkl", "x", "yz", "pqr#", "\xe2\x82\xac", "\xc3", "\xff", "\xf0\x9f\x98\x80", "_`~")
	case 3, 4:
		return pick(next, "\b", "\t", "\n", "\v", "\f", "\r", "\r\n", "\x0e", "\x0f", "\x00", "\x07", "\x7f", "\x18")
	case 5:
		return "\x1b" + pick(next, "7", "8", "D", "E", "M", "M", "H", "c", "(0", ")0", "(A", ")A", "(B", ")B", "(C", "*0", "()0", "=", "Z", "]t\x07", "Ps\x1b\\", "", "[")
	case 6:
		return "\x1b[?" + pick(next, "6", "6", "7", "25", "1049", "1049", "6;7", "7;6;25", "1049;1049", "4", "") + pick(next, "h", "l")
	case 7:
		return "\x1b[" + number() + ";" + number() + pick(next, "r", "H", "f", "r")
	case 8:
		return "\x1b[" + pick(next, "31", "1;41", "", "0", "48;5;3", "4;7", "102") + "m"
	case 9:
		return "\x1b[" + pick(next, "4h", "4l", "4h", "20;4l", "5n", "6n", "6n", "c", "0c", "1c", "?c", "s", "u", "g", "g", "0g", "3g", "1g", "!p", "?J", ">c", " A", "?6$h")
	}
	return "\x1b[" + number() + string("ABCDEFGHJKLMPSTXdf@"[next(19)])
}

// Whatever a terminal is sent, however it is cut, and whatever sizes come between, it is what the chapter's words make of it act by act.
func TestP1706EveryOrder(t *testing.T) {
	for seed := range 600 {
		next := randoms(seed)
		w, h := next(9), next(8)
		if seed%4 == 0 { // so wide that there are stops
			w += 10 + next(15)
		}
		e, m, p := New(w, h), newModel(w, h), &esc.Parser{}
		var sent []string
		for range 120 {
			s := word(next)
			sent = append(sent, s)
			for _, a := range p.Feed(s) {
				m.act(a)
			}
			cut := next(len(s) + 1)
			got := e.Feed(s[:cut], s[cut:])
			if got != m.replies {
				t.Fatalf("%q: it replies %q, not %q", sent, got, m.replies)
			}
			m.replies = ""
			switch next(40) {
			case 0:
				w, h = next(20)-1, next(10)-1
				sent = append(sent, "Size "+strconv.Itoa(w)+" "+strconv.Itoa(h))
				e.Size(w, h)
				m.size(w, h)
			case 1:
				e = e.Copy()
			}
			m.holds(t, sent, e)
		}
	}
}

// The same, of acts that are handed over by themselves: what no Parser tells is among them.
func TestP1706EveryAct(t *testing.T) {
	for seed := range 300 {
		next := randoms(seed)
		e, m := New(next(9), next(8)), newModel(0, 0)
		m.size(e.Screen().W, e.Screen().H)
		for range 200 {
			a := anyAct(next)
			m.act(a)
			if got := e.Act(a); got != m.replies {
				t.Fatalf("%+v: it replies %q, not %q", a, got, m.replies)
			}
			m.replies = ""
			m.holds(t, a, e)
		}
	}
}

func anyAct(next func(n int) int) api.Act {
	a := api.Act{Kind: 1 + next(6), Rune: rune(next(0x110000)), Byte: next(128), Text: "some"}
	if next(2) == 0 {
		a.Rune = rune(next(200))
	}
	if next(8) == 0 {
		a.Mark = '?'
	}
	if a.Kind == api.Escape || next(20) == 0 {
		a.Inter = pick(next, "", "", "(", ")", "((", " ")
	}
	if a.Kind == api.Control {
		a.Byte = next(32)
	}
	for range next(5) {
		a.Nums = append(a.Nums, []int{-1, 0, 1, 2, 3, 4, 5, 6, 7, 25, 31, 41, 1049, 9999}[next(14)])
	}
	return a
}
