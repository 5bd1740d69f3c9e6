package keys

import (
	"math"
	"slices"
	"strings"
	"testing"
	"unsafe"

	"pontoon/api"
)

// takes tells whether Take answers that, and what is told then.
func takes(t *testing.T, i *In, m *inModel, want, first int, l ...api.Event) {
	t.Helper()
	m.take(first, l...)
	if got := i.Take(first, l...); got != want {
		t.Errorf("Take(%d, ..) of %d is %d, not %d", first, len(l), got, want)
	}
	inIs(t, first, i, m)
}

// took makes an In that has the events up to got, of which done went.
func took(t *testing.T, got, done int) (*In, *inModel) {
	t.Helper()
	i, m := &In{}, &inModel{}
	for n := 1; n <= got; n++ {
		i.Take(n, nth(n))
		m.take(n, nth(n))
		if n <= done {
			i.Next()
			m.next()
		}
	}
	inIs(t, "took", i, m)
	return i, m
}

func TestP2003Example(t *testing.T) {
	a, b := key("a"), key("b")
	o, i := &Out{}, &In{}
	if n := o.Add(a, b); n != 2 {
		t.Errorf("Add is %d", n)
	}
	if n, k := i.Take(2, b), i.Take(1, a, b); n != 0 || k != 2 {
		t.Errorf("Take is %d, %d", n, k)
	}
	if e, ok := i.Next(); e != a || !ok {
		t.Errorf("Next is %v, %t", e, ok)
	}
}

func TestP2003Zero(t *testing.T) {
	i, m := &In{}, &inModel{}
	inIs(t, "a zero one", i, m)
	goesThrough(t, "a zero one", i, m)
	takes(t, i, m, 0, 1)
	takes(t, i, m, 0, 0)
	takes(t, i, m, 0, 2, nth(2))
	takes(t, i, m, 1, 1, nth(1))
	goesThrough(t, "one", i, m)
}

// Each first number of each count, at one that has some: what came is nothing, what is next is kept, what is missing ends it.
func TestP2003EachTake(t *testing.T) {
	for got := range 7 {
		for done := range got + 1 {
			for first := -5; first <= got+4; first++ {
				for count := range 14 {
					i, m := took(t, got, done)
					last := first + count - 1
					want := got
					if first <= got+1 {
						want = max(got, last)
					}
					takes(t, i, m, want, first, from(first, last)...)
					goesThrough(t, []int{got, done, first, count}, i, m)
				}
			}
		}
	}
}

func TestP2003FarNumbers(t *testing.T) {
	for _, got := range []int{0, 3, 40} {
		for _, first := range far {
			for _, count := range []int{0, 1, 2, 40, 45, 60, 100} {
				i, m := took(t, got, got/2)
				l := slices.Repeat([]api.Event{key("far")}, count)
				want := got
				if first >= -41 && first <= 0 { // the others are so far away that none of these comes near
					want = min(max(got, first+count-1), got/2+40)
				}
				takes(t, i, m, want, first, l...)
				goesThrough(t, first, i, m)
			}
		}
	}
}

// What came already is not asked whether it is the same, nor whether it is Valid.
func TestP2003WhatCameIsNothing(t *testing.T) {
	for _, e := range wrongs() {
		i, m := took(t, 3, 1)
		takes(t, i, m, 3, 1, e, e, e)
		takes(t, i, m, 3, 2, e)
		takes(t, i, m, 3, math.MinInt, e, e)
		takes(t, i, m, 4, 1, e, key("x"), e, nth(4))
		takes(t, i, m, 5, -2, e, e, e, e, e, e, e, nth(5))
		goesThrough(t, e, i, m)
	}
}

// One that is not Valid ends it, and the ones behind may come later, when that one came right.
func TestP2003WrongOnes(t *testing.T) {
	for _, e := range wrongs() {
		i, m := took(t, 3, 1)
		takes(t, i, m, 3, 4, e)
		takes(t, i, m, 3, 4, e, nth(5))
		takes(t, i, m, 3, 4, e, nth(4), nth(5))
		takes(t, i, m, 5, 3, nth(3), nth(4), nth(5), e, nth(7))
		takes(t, i, m, 5, 7, nth(7))
		takes(t, i, m, 7, 6, nth(6), nth(7), e)
		goesThrough(t, e, i, m)
	}
}

func TestP2003Missing(t *testing.T) {
	i, m := took(t, 3, 0)
	for first := 5; first < 50; first++ {
		takes(t, i, m, 3, first, nth(4), nth(5), nth(6))
	}
	takes(t, i, m, 4, 4, nth(4))
	goesThrough(t, "behind", i, m)
}

func TestP2003Room(t *testing.T) {
	for done := range 41 {
		i, m := took(t, 40, done)
		takes(t, i, m, 40+done, 41, from(41, 100)...)
		takes(t, i, m, 40+done, 41+done, nth(41+done))
		takes(t, i, m, 40+done, 1, from(1, 100)...)
		if i.Len() != 40 {
			t.Errorf("%d are kept", i.Len())
		}
		if e, ok := i.Next(); e != nth(done+1) || !ok {
			t.Errorf("Next is %v, %t", e, ok)
		}
		m.next()
		takes(t, i, m, 41+done, 30, from(30, 100)...)
		goesThrough(t, done, i, m)
		takes(t, i, m, 81+done, 42+done, from(42+done, 200)...)
		goesThrough(t, done, i, m)
	}
	i, m := &In{}, &inModel{}
	takes(t, i, m, 40, 1, from(1, 100)...)
	goesThrough(t, "at once", i, m)
}

func TestP2003NextOfNone(t *testing.T) {
	i, m := took(t, 2, 0)
	for range 2 {
		i.Next()
		m.next()
	}
	for range 3 {
		if e, ok := i.Next(); e != (api.Event{}) || ok {
			t.Errorf("Next is %v, %t", e, ok)
		}
		inIs(t, "none is kept", i, m)
	}
	takes(t, i, m, 2, 1, nth(1), nth(2))
	takes(t, i, m, 3, 3, nth(3))
	goesThrough(t, "one more", i, m)
}

func TestP2003NothingIsWrittenIntoTheList(t *testing.T) {
	l := slices.Repeat([]api.Event{key("a")}, 60)
	i := &In{}
	i.Take(1, l[:30:60]...)
	i.Take(-2, l[:40:60]...)
	for range 20 {
		i.Next()
	}
	i.Take(38, l[:20:60]...)
	i.Take(50, key("b"), key("c"))
	if !slices.Equal(l, slices.Repeat([]api.Event{key("a")}, 60)) {
		t.Errorf("the list is %v", l)
	}
}

func TestP2003EventsAreItsOwn(t *testing.T) {
	i, m := &In{}, &inModel{}
	l := from(-1, 20)
	m.take(-1, l...)
	i.Take(-1, l...)
	clear(l)
	goesThrough(t, "what was handed in is turned", i, m)
	long := strings.Repeat("abcdefgh", 1000)
	i.Take(21, key(long[8:16]))
	if e, _ := i.Next(); e.Text != "abcdefgh" || unsafe.StringData(e.Text) == unsafe.StringData(long[8:]) {
		t.Errorf("%q is shared", e.Text)
	}
}

// What goes is let go: behind what is kept nothing of it is held.
func TestP2003WhatGoesIsLetGo(t *testing.T) {
	i, _ := took(t, 40, 0)
	for range 38 {
		i.Next()
	}
	for _, e := range i.kept[len(i.kept):cap(i.kept)] {
		if e != (api.Event{}) {
			t.Errorf("%v is held", e)
		}
	}
}

func TestP2003InsAreTheirOwn(t *testing.T) {
	a, m := took(t, 5, 2)
	b, n := took(t, 3, 3)
	takes(t, a, m, 6, 6, nth(6))
	inIs(t, "the other one", b, n)
	goesThrough(t, "the other one", b, n)
	goesThrough(t, "the one", a, m)
}

func TestP2003NilIn(t *testing.T) {
	var i *In
	for range 2 {
		for _, first := range append(slices.Clone(far), 0, 1, 2) {
			if i.Take(first, key("a"), key("b")) != 0 || i.Take(first) != 0 {
				t.Errorf("a nil one takes from %d on", first)
			}
		}
		if e, ok := i.Next(); e != (api.Event{}) || ok || i.Done() != 0 || i.Got() != 0 || i.Len() != 0 {
			t.Errorf("a nil one has %v, %t, %d, %d, %d", e, ok, i.Done(), i.Got(), i.Len())
		}
	}
}

// Calls in any order, as the model says.
func TestP2003AnyOrder(t *testing.T) {
	bad := wrongs()
	for seed := range 400 {
		next := randoms(seed)
		i, m := &In{}, &inModel{}
		for k := range 150 {
			what := []int{seed, k}
			if next(2+seed%3) == 0 {
				want, is := m.next()
				if e, ok := i.Next(); e != want || ok != is {
					t.Fatalf("%v: Next is %v, %t, not %v, %t", what, e, ok, want, is)
				}
			} else {
				first := i.Got() - 4 + next(7)
				if next(9) == 0 {
					first = far[next(len(far))]
				}
				l := slices.Repeat([]api.Event{nth(k)}, next(2+seed%20))
				if len(l) > 0 && next(5) == 0 {
					l[next(len(l))] = bad[next(len(bad))]
				}
				if got, want := i.Take(first, l...), m.take(first, l...); got != want {
					t.Fatalf("%v: Take(%d, ..) is %d, not %d", what, first, got, want)
				}
			}
			inIs(t, what, i, m)
		}
		goesThrough(t, seed, i, m)
	}
}
