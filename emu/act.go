package emu

import (
	"pontoon/api"
	"pontoon/chart"
)

const (
	shiftOut = 14
	shiftIn  = 15

	firstMapped = 128 // from this rune on the set in use says nothing
)

// act does one act; what it replies.
func (e *Emu) act(a api.Act) string {
	switch a.Kind {
	case api.Print:
		e.print(a.Rune)
	case api.Control:
		e.control(a.Byte)
	case api.Escape:
		e.escape(a.Inter, a.Byte)
	case api.Csi:
		return e.csi(a)
	}
	return ""
}

func (e *Emu) print(r rune) {
	if e.late && e.autowrap {
		e.x = 0
		e.index()
	}
	if r < firstMapped {
		r = chart.Map(e.sets[e.inUse], r)
	}
	g := e.shown()
	if e.insert {
		g.Right(e.x, e.y, 1, e.blank())
	}
	g.Set(e.x, e.y, api.Cell{Rune: r, Attr: e.pen})
	inLast := e.x == g.W()-1
	e.goTo(e.x+1, e.y)
	e.late = inLast && e.autowrap
}

func (e *Emu) control(b int) {
	switch b {
	case '\b':
		e.goTo(e.x-1, e.y)
	case '\t':
		e.goTo(e.stops.Next(e.x), e.y)
	case '\n', '\v', '\f':
		e.index()
	case '\r':
		e.goTo(0, e.y)
	case shiftOut:
		e.inUse = 1
	case shiftIn:
		e.inUse = 0
	}
}

func (e *Emu) escape(inter string, b int) {
	switch inter {
	case "":
		e.bareEscape(b)
	case "(":
		e.choose(0, b)
	case ")":
		e.choose(1, b)
	}
}

func (e *Emu) bareEscape(b int) {
	switch b {
	case '7':
		e.save()
	case '8':
		e.restore()
	case 'D':
		e.index()
	case 'E':
		e.x = 0
		e.index()
	case 'M':
		e.reverseIndex()
	case 'H':
		e.stops.Set(e.x)
	case 'c':
		e.reset(e.main.W(), e.main.H())
	}
}

// index goes a row down, and in the last one of the region moves that up.
func (e *Emu) index() {
	y := e.y + 1
	if y == e.bottom {
		e.shown().Up(e.top, e.bottom, 1, e.blank())
		y = e.y
	}
	e.goTo(e.x, y)
}

// reverseIndex goes a row up, and in the first one of the region moves that down.
func (e *Emu) reverseIndex() {
	y := e.y - 1
	if e.y == e.top {
		e.shown().Down(e.top, e.bottom, 1, e.blank())
		y = e.y
	}
	e.goTo(e.x, y)
}

func (e *Emu) save() { e.saved = e.stance }

// restore brings back what was saved, maybe on a greater screen.
func (e *Emu) restore() {
	e.stance = e.saved
	e.goTo(e.x, e.y)
}

// choose sets G0, G1. An int that is no byte is no set, whatever its lowest bits are.
func (e *Emu) choose(which, set int) {
	b := byte(set)
	if int(b) == set && chart.Known(b) {
		e.sets[which] = b
	}
}
