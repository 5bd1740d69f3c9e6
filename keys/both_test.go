package keys

import (
	"slices"
	"testing"

	"pontoon/api"
)

// message is what a sender tells: the number of the first event, and the events as bytes.
type message struct {
	first int
	b     string
}

// link has a sender and a taker, and what is under way between them.
type link struct {
	out   *Out
	in    *In
	there []message
	back  []int
	added []api.Event // all, in order
	told  int         // of them by Next
}

func linked() *link { return &link{out: &Out{}, in: &In{}} }

// add adds the next n; what has no room is typed anew later.
func (l *link) add(n int) {
	for _, e := range from(len(l.added)+1, len(l.added)+n) {
		if l.out.Add(e) == 1 {
			l.added = append(l.added, e)
		}
	}
}

func (l *link) tell(t *testing.T, most int) {
	t.Helper()
	first, events := l.out.Wait(most)
	b, err := Lay(events...)
	if err != api.OK {
		t.Fatalf("Lay of what waits: %d", err)
	}
	l.there = append(l.there, message{first: first, b: b})
}

func (l *link) take(t *testing.T, what any, m message) {
	t.Helper()
	events, err := Read(m.b)
	if err != api.OK {
		t.Fatalf("%v: Read of what was laid: %d", what, err)
	}
	before := l.in.Got()
	if got := l.in.Take(m.first, events...); got < before || got > len(l.added) {
		t.Fatalf("%v: Got is %d behind %d, and %d were added", what, got, before, len(l.added))
	}
}

// next holds what Next tells to what was added, each once, in order.
func (l *link) next(t *testing.T, what any) {
	t.Helper()
	e, ok := l.in.Next()
	if !ok {
		return
	}
	if l.told >= len(l.added) || e != l.added[l.told] {
		t.Fatalf("%v: the event %d is %v", what, l.told+1, e)
	}
	l.told++
}

// picked takes one of a list, or leaves it there, so that it comes again.
func picked[T any](l []T, next func(n int) int) (T, []T) {
	k := next(len(l))
	one := l[k]
	if next(3) > 0 {
		l = slices.Delete(l, k, k+1)
	}
	return one, l
}

// lose lets one of a list go.
func lose[T any](l []T, next func(n int) int) []T {
	k := next(len(l))
	return slices.Delete(l, k, k+1)
}

func (l *link) step(t *testing.T, what any, next func(n int) int) {
	t.Helper()
	switch k := next(9); {
	case k == 0:
		l.add(next(6))
	case k == 1:
		l.tell(t, next(25))
	case k == 2:
		l.back = append(l.back, l.in.Got())
	case k <= 4 && len(l.there) > 0:
		var m message
		m, l.there = picked(l.there, next)
		l.take(t, what, m)
	case k == 5 && len(l.back) > 0:
		var n int
		n, l.back = picked(l.back, next)
		l.out.Ack(n)
	case k == 6 && len(l.there) > 0:
		l.there = lose(l.there, next)
	case k == 7 && len(l.back) > 0:
		l.back = lose(l.back, next)
	default:
		l.next(t, what)
	}
	if n, waiting := l.out.Wait(99); len(waiting) > 40 || l.in.Len() > 40 || n > l.in.Got()+1 {
		t.Fatalf("%v: from %d on %d wait, %d are kept up to %d", what, n, len(waiting), l.in.Len(), l.in.Got())
	}
}

// rests tells whether a few that come bring all over.
func (l *link) rests(t *testing.T, what any) {
	t.Helper()
	for range 5 {
		l.tell(t, 20)
		l.take(t, what, l.there[len(l.there)-1])
		l.out.Ack(l.in.Got())
		for range 40 {
			l.next(t, what)
		}
	}
	if n, waiting := l.out.Wait(99); n != 0 || len(waiting) != 0 || l.told != len(l.added) || l.in.Done() != l.out.Top() {
		t.Fatalf("%v: %d wait, and %d of %d were told", what, len(waiting), l.told, len(l.added))
	}
}

func TestP2004WhateverIsLost(t *testing.T) {
	for seed := range 300 {
		next := randoms(seed)
		l := linked()
		for k := range 600 {
			l.step(t, []int{seed, k}, next)
			if next(200) == 0 {
				l.rests(t, []int{seed, k})
			}
		}
		l.rests(t, seed)
		if len(l.added) < 40 {
			t.Fatalf("%d: only %d were added", seed, len(l.added))
		}
	}
}

// Where the taker tells nothing, a sender comes to rest when no more has room, and goes on when there is.
func TestP2004NothingIsLostWhereThereIsNoRoom(t *testing.T) {
	l := linked()
	for range 3 {
		l.add(50)
		if len(l.added)%40 != 0 {
			t.Fatalf("%d were added", len(l.added))
		}
		for range 6 {
			l.tell(t, 40)
			l.take(t, "all", l.there[0])
			l.there = nil
		}
		if l.in.Len() != 40 {
			t.Fatalf("%d are kept", l.in.Len())
		}
		l.rests(t, "all")
	}
}

// Each message of a course comes again at the end, the last one first: nothing of it is told anew.
func TestP2004WhatComesAgainIsNothing(t *testing.T) {
	l := linked()
	for k := range 60 {
		l.add(1 + k%3)
		l.tell(t, 20)
		l.take(t, k, l.there[k])
		l.out.Ack(l.in.Got())
		for range 3 {
			l.next(t, k)
		}
	}
	told := l.told
	for _, m := range slices.Backward(l.there) {
		l.take(t, "again", m)
	}
	for range 50 {
		l.next(t, "again")
	}
	if told != len(l.added) || l.told != told || l.in.Got() != told {
		t.Errorf("%d were told, and %d again, of %d", told, l.told, len(l.added))
	}
}
