package esc

import "sync"

// rules have the table of states, which is filled inside the once, and read behind it. A Parser and its copies share them: nothing changes them any more.
type rules struct {
	once  sync.Once
	table [states]row
}

// state is where a Parser stands between two bytes: one of the chapter's five, told apart by what may stand there yet.
type state uint8

const (
	ground      state = iota
	escape            // Inter is empty
	escapeOne         // Inter has one byte
	escapeTwo         // Inter has two, and no room
	escapeWrong       // up to its end it says nothing
	csi               // a Mark may come
	csiNumbers        // no Mark may come any more
	csiOne            // Inter has one byte
	csiTwo            // Inter has two, and no room
	csiWrong          // up to its end it says nothing
	osc
	dcs
	states
)

// kind is what a byte is, as far as any state asks for it. They stand as the bytes do, so that kinds side by side can be laid at once.
type kind uint8

const (
	control kind = iota // below 32, but the next three
	bell
	cancel
	begin
	inter
	digit
	colon
	semicolon
	mark
	final // 64 to 126, but the next three
	toDcs
	toCsi
	toOsc
	del
	high // from 128 on
	kinds
)

// deed is what is done with a byte.
type deed uint8

const (
	skip deed = iota
	isPrint
	isControl
	isEscape
	isCsi
	isOsc
	isDcs
	keepMark
	keepInter
	keepDigit
	nextNumber
	keepText
)

type step struct {
	next state
	deed deed
}

type row [kinds]step

// rows are made when they are asked for first.
func (r *rules) rows() *[states]row {
	r.once.Do(func() { r.table = makeTable() })
	return &r.table
}

// makeTable makes what a byte of each kind does in each state.
func makeTable() [states]row {
	return [states]row{
		ground: common(ground).lay(inter, toOsc, step{ground, isPrint}),
		escape: escapeRow(escape, step{escapeOne, keepInter}, isEscape).
			lay(toDcs, toDcs, step{dcs, skip}).
			lay(toCsi, toCsi, step{csi, skip}).
			lay(toOsc, toOsc, step{osc, skip}),
		escapeOne:   escapeRow(escapeOne, step{escapeTwo, keepInter}, isEscape),
		escapeTwo:   escapeRow(escapeTwo, step{escapeWrong, skip}, isEscape),
		escapeWrong: escapeRow(escapeWrong, step{escapeWrong, skip}, skip),
		csi:         numbersRow(csi).lay(mark, mark, step{csiNumbers, keepMark}),
		csiNumbers:  numbersRow(csiNumbers),
		csiOne:      csiRow(csiOne, step{csiTwo, keepInter}, isCsi),
		csiTwo:      csiRow(csiTwo, step{csiWrong, skip}, isCsi),
		csiWrong:    csiRow(csiWrong, step{csiWrong, skip}, skip),
		osc:         textRow(osc, isOsc).lay(bell, bell, step{ground, isOsc}),
		dcs:         textRow(dcs, isDcs),
	}
}

// common is what is the same in all states but osc and dcs.
func common(at state) row {
	return row{}.
		lay(control, bell, step{at, isControl}).
		lay(cancel, cancel, step{ground, skip}).
		lay(begin, begin, step{escape, skip}).
		lay(del, del, step{at, skip}).
		lay(high, high, step{ground, isPrint})
}

func escapeRow(at state, further step, end deed) row {
	return common(at).lay(inter, inter, further).lay(digit, toOsc, step{ground, end})
}

func csiRow(at state, further step, end deed) row {
	return common(at).
		lay(inter, inter, further).
		lay(digit, mark, step{csiWrong, skip}).
		lay(final, toOsc, step{ground, end})
}

// numbersRow is a csi's as long as Inter is empty.
func numbersRow(at state) row {
	return csiRow(at, step{csiOne, keepInter}, isCsi).
		lay(digit, digit, step{csiNumbers, keepDigit}).
		lay(semicolon, semicolon, step{csiNumbers, nextNumber})
}

func textRow(at state, end deed) row {
	return row{}.
		lay(control, bell, step{at, skip}).
		lay(cancel, cancel, step{ground, skip}).
		lay(begin, begin, step{escape, end}).
		lay(inter, high, step{at, keepText})
}

// lay answers a row that has that step for all kinds from one to another.
func (r row) lay(from, to kind, s step) row {
	for k := from; k <= to; k++ {
		r[k] = s
	}
	return r
}

func kindOf(b byte) kind {
	switch {
	case b <= 31:
		return kindOfControl(b)
	case b <= 47:
		return inter
	case b <= 57:
		return digit
	case b == 58:
		return colon
	case b == 59:
		return semicolon
	case b <= 63:
		return mark
	case b <= 126:
		return kindOfFinal(b)
	case b == 127:
		return del
	}
	return high
}

func kindOfControl(b byte) kind {
	switch b {
	case 7:
		return bell
	case 24, 26:
		return cancel
	case 27:
		return begin
	}
	return control
}

func kindOfFinal(b byte) kind {
	switch b {
	case 'P':
		return toDcs
	case '[':
		return toCsi
	case ']':
		return toOsc
	}
	return final
}
