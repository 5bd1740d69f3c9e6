package states

import (
	"pontoon/api"
	"pontoon/patch"
	"pontoon/tally"
)

// Out has the states of who sends them. One that New did not make is as a nil one.
type Out struct {
	kept  list
	base  int
	added tally.Tally // of states beside 0: the top's number
}

// New makes one that begins with a screen.
func New(s api.Screen) *Out { return &Out{kept: beginning(s)} }

// Add adds a state; the top's number.
func (o *Out) Add(s api.Screen) int {
	if o.ready() && patch.Valid(s) && !patch.Same(s, o.kept.top().screen) {
		o.kept = o.kept.with(o.added.Add(1), copied(s), o.least())
	}
	return o.Top()
}

// Ack says that a state was taken. From one that is not kept any more no difference can be told, but from 0, which the other one has in any case.
func (o *Out) Ack(n int) bool {
	if n <= o.Base() || n > o.Top() {
		return false
	}
	o.base = 0
	if _, ok := o.kept.place(n); ok {
		o.base, o.kept = n, o.kept.from(n)
	}
	return true
}

// Base tells the number that was taken last.
func (o *Out) Base() int {
	if !o.ready() {
		return 0
	}
	return o.base
}

// Top tells the greatest number.
func (o *Out) Top() int {
	if !o.ready() {
		return 0
	}
	return o.added.Now()
}

// Get tells a state.
func (o *Out) Get(n int) (api.Screen, bool) {
	if !o.ready() {
		return api.Screen{}, false
	}
	s, ok := o.kept.get(n)
	return copied(s), ok
}

// All tells all numbers.
func (o *Out) All() []int {
	if !o.ready() {
		return nil
	}
	return o.kept.numbers()
}

// Patch tells the difference from the base to the top.
func (o *Out) Patch() (int, int, string) {
	if !o.ready() {
		return 0, 0, ""
	}
	base, _ := o.kept.get(o.base)
	d, _ := patch.Diff(base, o.kept.top().screen) // no error: both are kept, and so Valid
	return o.base, o.Top(), d
}

func (o *Out) ready() bool { return o != nil && o.kept != nil }

// least tells the place of the least state that may go: the base is 0, or stands right behind it since those between went.
func (o *Out) least() int {
	at, _ := o.kept.place(o.base)
	return at + 1
}
