package nvt

import "pontoon/api"

// state is where a Reader stands between two bytes.
type state uint8

const (
	ground         state = iota
	behindCR             // a byte 13 of Data: ground, but for a 0
	behindIAC            // it may be anything yet
	behindVerb           // WILL to DONT: the option is to come
	behindSB             // the option is to come
	inSub                // bytes of a Sub are to come
	behindIACInSub       // the Sub's end, a byte of it, or a command that gives it up
	states
)

// kind is what a byte is, as far as any state asks for it.
type kind uint8

const (
	other kind = iota
	nul        // to be let go behind a 13, so none in Binary
	cr
	se
	sb
	verb // WILL to DONT
	iac
	kinds
)

// act is what is done with a byte.
type act uint8

const (
	skip act = iota
	isData
	isCommand
	beginOption
	endOption
	beginSub
	nameSub
	keepSub
	endSub
)

type step struct {
	next state
	act  act
}

type row [kinds]step

// makeTable makes what a byte of each kind does in each state.
func makeTable() [states]row {
	text := every(step{ground, isData})
	text[cr] = step{behindCR, isData}
	text[iac] = step{behindIAC, skip}

	textBehindCR := text
	textBehindCR[nul] = step{ground, skip}

	command := every(step{ground, isCommand})
	command[iac] = step{ground, isData}
	command[verb] = step{behindVerb, beginOption}
	command[sb] = step{behindSB, beginSub}

	sub := every(step{inSub, keepSub})
	sub[iac] = step{behindIACInSub, skip}

	// A command in a Sub is one as any other: only these two are the Sub's own.
	commandInSub := command
	commandInSub[iac] = step{inSub, keepSub}
	commandInSub[se] = step{ground, endSub}

	return [states]row{
		ground:         text,
		behindCR:       textBehindCR,
		behindIAC:      command,
		behindVerb:     every(step{ground, endOption}),
		behindSB:       every(step{inSub, nameSub}),
		inSub:          sub,
		behindIACInSub: commandInSub,
	}
}

func every(s step) row {
	var r row
	for k := range r {
		r[k] = s
	}
	return r
}

// kind tells a byte's kind as the Reader is set when it comes.
func (r *Reader) kind(b byte) kind {
	switch {
	case b == 0 && !r.Binary:
		return nul
	case b == '\r':
		return cr
	case b == api.SE:
		return se
	case b == api.SB:
		return sb
	case b >= api.WILL && b <= api.DONT:
		return verb
	case b == api.IAC:
		return iac
	}
	return other
}
