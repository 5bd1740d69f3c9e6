package states

import (
	"slices"
	"testing"

	"pontoon/api"
	"pontoon/emu"
)

// message is what a sender tells.
type message struct {
	base, top int
	d         string
}

// link has a sender and a taker, and what is under way between them.
type link struct {
	out   *Out
	in    *In
	down  []message
	up    []int
	added []api.Screen // by their numbers: what a sender forgets too
}

func linked(s api.Screen) *link {
	return &link{out: New(s), in: Begin(s), added: []api.Screen{s}}
}

func (l *link) add(s api.Screen) {
	if n := l.out.Add(s); n == len(l.added) {
		l.added = append(l.added, s)
	}
}

func (l *link) tell() {
	base, top, d := l.out.Patch()
	l.down = append(l.down, message{base: base, top: top, d: d})
}

func (l *link) answer() { l.up = append(l.up, l.in.Top()) }

// picked takes one of a list, or leaves it there, so that it comes again.
func picked[T any](l []T, next func(n int) int) (T, []T) {
	k := next(len(l))
	picked := l[k]
	if next(3) > 0 {
		l = slices.Delete(l, k, k+1)
	}
	return picked, l
}

// holds tells whether what was taken is what was added, and the top did not fall.
func (l *link) holds(t *testing.T, what any, before int) {
	t.Helper()
	if l.in.Top() < before || l.in.Top() >= len(l.added) {
		t.Fatalf("%v: the top is %d behind %d, and %d were added", what, l.in.Top(), before, len(l.added)-1)
	}
	if s := l.in.Screen(); !alike(s, l.added[l.in.Top()]) {
		t.Fatalf("%v: the screen %d is %+v, not %+v", what, l.in.Top(), s, l.added[l.in.Top()])
	}
	for _, s := range l.in.kept {
		if !alike(s.screen, l.added[s.number]) {
			t.Fatalf("%v: the state %d is %+v, not %+v", what, s.number, s.screen, l.added[s.number])
		}
	}
	for _, n := range l.out.All() {
		if s, ok := l.out.Get(n); !ok || !alike(s, l.added[n]) {
			t.Fatalf("%v: the sender's state %d is %+v, %t, not %+v", what, n, s, ok, l.added[n])
		}
	}
	if len(l.in.All()) > 9 || len(l.out.All()) > 9 {
		t.Fatalf("%v: there are %v and %v", what, l.in.All(), l.out.All())
	}
}

// step does one thing; errors but that of what is old or has no base would tell of a difference that does not fit.
func (l *link) step(t *testing.T, what any, next func(n int) int) {
	t.Helper()
	before := l.in.Top()
	switch k := next(5); {
	case k == 0:
		l.tell()
	case k == 1:
		l.answer()
	case k == 2 && len(l.down) > 0:
		var m message
		m, l.down = picked(l.down, next)
		if err := l.in.Take(m.base, m.top, m.d); err != api.OK && err != api.ErrOld && err != api.ErrBase {
			t.Fatalf("%v: Take(%d, %d) is %d", what, m.base, m.top, err)
		}
	case k == 3 && len(l.up) > 0:
		var n int
		n, l.up = picked(l.up, next)
		l.out.Ack(n)
	}
	l.holds(t, what, before)
}

// rests tells whether some that come bring the taker to the sender's top: what it has is told, and then one difference.
func (l *link) rests(t *testing.T, what any) {
	t.Helper()
	before := l.in.Top()
	l.out.Ack(l.in.Top())
	base, top, d := l.out.Patch()
	if base != top {
		if err := l.in.Take(base, top, d); err != api.OK && err != api.ErrOld {
			t.Fatalf("%v: the last Take(%d, %d) is %d", what, base, top, err)
		}
	}
	l.holds(t, what, before)
	if l.in.Top() != l.out.Top() || !alike(l.in.Screen(), l.added[len(l.added)-1]) {
		t.Fatalf("%v: the taker has %d, the sender %d", what, l.in.Top(), l.out.Top())
	}
}

func TestP1903WhateverIsLost(t *testing.T) {
	for seed := range 300 {
		next := randoms(seed)
		l := linked(drawn(next))
		for k := range 400 {
			if next(1+seed%4) == 0 {
				l.add(drawn(next))
			}
			l.step(t, []int{seed, k}, next)
			if next(150) == 0 {
				l.rests(t, []int{seed, k})
			}
		}
		l.rests(t, seed)
	}
}

// The screens of a terminal, whatever it is sent, and whatever size it has.
func TestP1903ScreensOfATerminal(t *testing.T) {
	parts := []string{"abc", "\r\n", "\x1b[2J", "\x1b[7;38;5;9m", "\x1b[0m", "\x1b[3;4H", "\x1b[?25l", "\x1b[?25h", "\x1b[?1049h", "\x1b[?1049l", "\x1b[2L", "\xe2\x82\xac", "\xff", "\x1bM", "\x1bc"}
	for seed := range 40 {
		next := randoms(seed)
		e := emu.New(2+next(12), 1+next(8))
		l := linked(e.Screen())
		for k := range 300 {
			e.Feed(parts[next(len(parts))])
			if next(20) == 0 {
				e.Size(2+next(12), 1+next(8))
			}
			l.add(e.Screen())
			l.step(t, []int{seed, k}, next)
		}
		l.rests(t, seed)
	}
}

// Where nothing is lost, each state is taken; the sender needs no more than the two last ones then.
func TestP1903WhereNothingIsLost(t *testing.T) {
	l := linked(nth(0))
	for n := 1; n < 100; n++ {
		l.add(nth(n))
		base, top, d := l.out.Patch()
		if err := l.in.Take(base, top, d); err != api.OK || base != n-1 || top != n {
			t.Fatalf("Take(%d, %d) is %d", base, top, err)
		}
		l.holds(t, n, n)
		if !l.out.Ack(l.in.Top()) || !slices.Equal(l.out.All(), []int{0, n}) || l.in.Top() != n {
			t.Fatalf("the sender has %v, the taker %v", l.out.All(), l.in.All())
		}
	}
}

// A taker that was long away is told from 0 on, as what it has went at the sender.
func TestP1903LongAway(t *testing.T) {
	l := linked(nth(0))
	for n := 1; n <= 3; n++ {
		l.add(nth(n))
		l.tell()
	}
	for _, m := range l.down {
		if err := l.in.Take(m.base, m.top, m.d); err != api.OK {
			t.Fatalf("Take is %d", err)
		}
	}
	for n := 4; n <= 30; n++ {
		l.add(nth(n))
	}
	if !l.out.Ack(l.in.Top()) || l.out.Base() != 0 {
		t.Errorf("the base is %d", l.out.Base())
	}
	l.rests(t, "long away")
}
