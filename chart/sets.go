package chart

// The sets, by the bytes that a host names them with.
const (
	plain   = 'B'
	british = 'A'
	lines   = '0'
)

const pound = 0xa3

// Map tells the rune of a set.
func Map(set byte, r rune) rune {
	switch {
	case set == british && r == '#':
		return pound
	case set == lines:
		return lineOf(r)
	}
	return r
}

// Known tells whether a set is one.
func Known(set byte) bool { return set == plain || set == british || set == lines }

// lineOf tells the rune of the set of lines. Its list stands inside: one that is made once would have to be kept at package level, as Map has no object.
func lineOf(r rune) rune {
	const first = '_'
	list := [...]rune{
		' ', 0x25c6, 0x2592, 0x2409, 0x240c, 0x240d, 0x240a, 0xb0,
		0xb1, 0x2424, 0x240b, 0x2518, 0x2510, 0x250c, 0x2514, 0x253c,
		0x23ba, 0x23bb, 0x2500, 0x23bc, 0x23bd, 0x251c, 0x2524, 0x2534,
		0x252c, 0x2502, 0x2264, 0x2265, 0x3c0, 0x2260, 0xa3, 0xb7,
	}
	i := int(r) - first
	if i < 0 || i >= len(list) {
		return r
	}
	return list[i]
}
