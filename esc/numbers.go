package esc

import "pontoon/api"

const missing = -1 // a number that is not there

// numbers are those of a control sequence. An array, so that a copy shares nothing.
type numbers struct {
	list [api.MaxParams]int
	came int // up to the one that is read; those beyond the array's length go
}

func (n *numbers) digit(d int) {
	n.begin()
	if n.came <= len(n.list) {
		last := &n.list[n.came-1]
		*last = min(max(*last, 0)*10+d, api.MaxNumber)
	}
}

// next goes to the next number: ahead of it there is one, even if no digit of it came.
func (n *numbers) next() {
	n.begin()
	n.add()
}

func (n *numbers) begin() {
	if n.came == 0 {
		n.add()
	}
}

func (n *numbers) add() {
	if n.came < len(n.list) {
		n.list[n.came] = missing
	}
	n.came++
}

func (n *numbers) kept() int { return min(n.came, len(n.list)) }

func (n *numbers) all() []int {
	return append([]int(nil), n.list[:n.kept()]...)
}
