package states

import (
	"pontoon/api"
	"pontoon/patch"
)

// In has the states of who takes them. One that Begin did not make is as a nil one.
type In struct {
	kept list
}

// Begin makes one that begins with a screen.
func Begin(s api.Screen) *In { return &In{kept: beginning(s)} }

// Take takes a difference.
func (i *In) Take(base, n int, d string) api.Errno {
	if !i.ready() {
		return api.ErrArg
	}
	if n <= i.Top() {
		return api.ErrOld
	}
	was, ok := i.kept.get(base)
	if !ok {
		return api.ErrBase
	}
	s, err := patch.Apply(was, d)
	if err != api.OK {
		return err
	}
	i.kept = i.kept.from(base).with(n, s, 1) // of those beside 0, the first is the least
	return api.OK
}

// Top tells the greatest number.
func (i *In) Top() int {
	if !i.ready() {
		return 0
	}
	return i.kept.top().number
}

// Screen tells the top's screen.
func (i *In) Screen() api.Screen {
	if !i.ready() {
		return api.Screen{}
	}
	return copied(i.kept.top().screen)
}

// All tells all numbers.
func (i *In) All() []int {
	if !i.ready() {
		return nil
	}
	return i.kept.numbers()
}

func (i *In) ready() bool { return i != nil && i.kept != nil }
