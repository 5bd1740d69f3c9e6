package patch

import (
	"pontoon/api"
)

// The model lays and reads differences by the chapter's words, byte by byte, and shares nothing with what is tested, nor with codec and cell.

// number tells the bytes of a number.
func number(n int) string {
	if n < 128 {
		return string([]byte{byte(n)})
	}
	return string([]byte{byte(n%128 + 128)}) + number(n/128)
}

func cellBytes(c api.Cell) string {
	marks := 0
	for bit, set := range []bool{c.Attr.Bold, c.Attr.Under, c.Attr.Inverse} {
		if set {
			marks += 1 << bit
		}
	}
	return number(int(c.Rune)) + string([]byte{byte(c.Attr.Fg), byte(c.Attr.Bg), byte(marks)})
}

// isChanged tells whether a place of b is changed.
func isChanged(a, b api.Screen, place int) bool {
	return a.W != b.W || a.H != b.H || a.Cells[place] != b.Cells[place]
}

// countChanged tells how many places of b are changed.
func countChanged(a, b api.Screen) int {
	n := 0
	for place := range b.Cells {
		if isChanged(a, b, place) {
			n++
		}
	}
	return n
}

// diffBytes tells the difference of two Valid screens.
func diffBytes(a, b api.Screen) string {
	hidden := "\x00"
	if b.Hidden {
		hidden = "\x01"
	}
	count, runs, last := 0, "", 0
	for place := 0; place < len(b.Cells); place++ {
		if !isChanged(a, b, place) {
			continue
		}
		size, cells := 0, ""
		for place+size < len(b.Cells) && isChanged(a, b, place+size) {
			cells += cellBytes(b.Cells[place+size])
			size++
		}
		runs += number(place-last) + number(size) + cells
		count++
		place += size
		last = place
	}
	return number(b.W) + number(b.H) + number(b.X) + number(b.Y) + hidden + number(count) + runs
}

// bytesReader reads numbers and bytes, till one of them is wrong.
type bytesReader struct {
	rest  string
	wrong bool
}

func (r *bytesReader) one() int {
	if r.rest == "" {
		r.wrong = true
		return 0
	}
	b := r.rest[0]
	r.rest = r.rest[1:]
	return int(b)
}

// num reads a number of at most three bytes: there is no greater one in a difference.
func (r *bytesReader) num() int {
	n := 0
	for i := range 3 {
		b := r.one()
		n += b % 128 << (7 * i)
		if b < 128 {
			r.wrong = r.wrong || b == 0 && i > 0
			return n
		}
	}
	r.wrong = true
	return 0
}

func (r *bytesReader) cell() api.Cell {
	c := api.Cell{Rune: rune(r.num()), Attr: api.Attr{Fg: r.one(), Bg: r.one()}}
	marks := r.one()
	c.Attr.Bold, c.Attr.Under, c.Attr.Inverse = marks&1 != 0, marks&2 != 0, marks&4 != 0
	r.wrong = r.wrong || c.Rune > 0x10ffff || c.Attr.Fg > 16 || c.Attr.Bg > 16 || marks > 7
	return c
}

// applied tells the screen that d makes of a Valid screen, and whether d may be at all: each rule is asked for where the bytes stand.
func applied(a api.Screen, d string) (api.Screen, bool) {
	r := &bytesReader{rest: d}
	b := api.Screen{W: r.num(), H: r.num(), X: r.num(), Y: r.num()}
	hidden, count := r.one(), r.num()
	b.Hidden = hidden == 1
	if r.wrong || hidden > 1 || b.W < 2 || b.W > 40 || b.H < 1 || b.H > 20 || b.X >= b.W || b.Y >= b.H {
		return b, false
	}
	other := b.W != a.W || b.H != a.H
	if other && count != 1 {
		return b, false
	}
	b.Cells = make([]api.Cell, b.W*b.H)
	if !other {
		copy(b.Cells, a.Cells)
	}
	last := 0
	for i := range count {
		gap, size := r.num(), r.num()
		first := last + gap
		if r.wrong || size == 0 || i > 0 && gap == 0 || first+size > len(b.Cells) || other && size != len(b.Cells) {
			return b, false
		}
		for place := first; place < first+size; place++ {
			b.Cells[place] = r.cell()
			if r.wrong || !other && b.Cells[place] == a.Cells[place] {
				return b, false
			}
		}
		last = first + size
	}
	return b, r.rest == ""
}

// randoms makes numbers from 0 on and below n that are the same each time.
func randoms(seed int) func(n int) int {
	x := uint32(seed)
	return func(n int) int {
		x = x*1664525 + 1013904223
		return int(x>>16) % n
	}
}

// drawn makes a Valid screen, often of the size of another one and with many of its cells.
func drawn(of api.Screen, next func(n int) int) api.Screen {
	s := copied(of)
	if next(4) == 0 {
		s = lettered(2+next(8), 1+next(6))
	}
	runes := []rune{0, 32, 'x', 127, 128, 0x20ac, 0xd800, 0x10ffff}
	for range next(10) {
		a := api.Attr{Fg: next(17), Bg: next(17), Bold: next(2) == 1, Under: next(2) == 1, Inverse: next(2) == 1}
		s.Cells[next(len(s.Cells))] = api.Cell{Rune: runes[next(len(runes))], Attr: a}
	}
	s.X, s.Y, s.Hidden = next(s.W), next(s.H), next(2) == 1
	return s
}
