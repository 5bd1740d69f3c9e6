package states

import (
	"math"
	"slices"
	"testing"

	"pontoon/api"
	"pontoon/patch"
)

// takes tells whether Take of a difference to the screen of n answers that, and what is kept then.
func takes(t *testing.T, i *In, m *inModel, base, n int, want api.Errno, all ...int) {
	t.Helper()
	d := diff(t, m.kept[base], nth(n))
	if err := i.Take(base, n, d); err != want || !slices.Equal(i.All(), all) {
		t.Errorf("Take(%d, %d) is %d, All %v, not %d, %v", base, n, err, i.All(), want, all)
	}
	m.take(base, n, nth(n), true)
	inIs(t, n, i, m)
}

// refuses tells whether Take answers an error, and nothing comes of it.
func refuses(t *testing.T, i *In, m *inModel, base, n int, d string, want api.Errno) {
	t.Helper()
	if err := i.Take(base, n, d); err != want {
		t.Errorf("Take(%d, %d, %x) is %d, not %d", base, n, d, err, want)
	}
	inIs(t, "what was refused", i, m)
}

func begun() (*In, *inModel) {
	return Begin(nth(0)), &inModel{kept: map[int]api.Screen{0: nth(0)}}
}

func TestP1902Begin(t *testing.T) {
	hidden := turned(texted("ab"), func(s *api.Screen) { s.X, s.Hidden = 3, true })
	for _, s := range []api.Screen{texted(""), hidden, patch.Blank(2, 1), patch.Blank(40, 20), patch.Blank(7, 3)} {
		inIs(t, "a Valid one", Begin(s), &inModel{kept: map[int]api.Screen{0: s}})
	}
	for k, s := range wrongs() {
		inIs(t, k, Begin(s), &inModel{kept: map[int]api.Screen{0: patch.Blank(2, 1)}})
	}
}

func TestP1902Take(t *testing.T) {
	i, m := begun()
	takes(t, i, m, 0, 1, api.OK, 0, 1)
	takes(t, i, m, 1, 2, api.OK, 0, 1, 2)
	takes(t, i, m, 1, 5, api.OK, 0, 1, 2, 5)
	takes(t, i, m, 0, 6, api.OK, 0, 1, 2, 5, 6)
	takes(t, i, m, 2, 9, api.OK, 0, 2, 5, 6, 9)
	takes(t, i, m, 9, 10, api.OK, 0, 9, 10)
	takes(t, i, m, 0, 11, api.OK, 0, 9, 10, 11)
	takes(t, i, m, 11, 1000, api.OK, 0, 11, 1000)
}

// A difference that changes nothing makes a state, too: its number is another one.
func TestP1902TakeOfTheSameScreen(t *testing.T) {
	i, m := begun()
	for n := 1; n < 5; n++ {
		if err := i.Take(n-1, n, diff(t, nth(0), nth(0))); err != api.OK {
			t.Errorf("Take is %d", err)
		}
		m.take(n-1, n, nth(0), true)
		inIs(t, n, i, m)
	}
}

func TestP1902TakeOfOtherSizes(t *testing.T) {
	i, m := begun()
	for n, s := range []api.Screen{patch.Blank(40, 20), patch.Blank(2, 1), texted("abcd"), turned(texted("abcd"), func(s *api.Screen) { s.W, s.H, s.Y = 2, 2, 1 })} {
		if err := i.Take(n, n+1, diff(t, m.kept[n], s)); err != api.OK {
			t.Errorf("Take is %d", err)
		}
		m.take(n, n+1, s, true)
		inIs(t, n, i, m)
	}
}

func TestP1902Refused(t *testing.T) {
	i, m := begun()
	takes(t, i, m, 0, 1, api.OK, 0, 1)
	takes(t, i, m, 1, 3, api.OK, 0, 1, 3)
	takes(t, i, m, 3, 5, api.OK, 0, 3, 5)
	good := diff(t, nth(5), nth(7))
	for _, n := range []int{math.MinInt, -1, 0, 1, 3, 4, 5} {
		for _, base := range []int{math.MinInt, -1, 0, 1, 3, 4, 5, 6, math.MaxInt} {
			refuses(t, i, m, base, n, good, api.ErrOld)
			refuses(t, i, m, base, n, "", api.ErrOld)
		}
	}
	for _, n := range []int{6, 7, 1 << 62, math.MaxInt} {
		for _, base := range []int{math.MinInt, -1, 1, 2, 4, 6, 7, math.MaxInt} {
			refuses(t, i, m, base, n, good, api.ErrBase)
			refuses(t, i, m, base, n, "", api.ErrBase)
		}
		for _, base := range []int{0, 3, 5} {
			refuses(t, i, m, base, n, "", api.ErrForm)
			refuses(t, i, m, base, n, "x", api.ErrForm)
			refuses(t, i, m, base, n, diff(t, m.kept[base], nth(7))+"\x00", api.ErrForm)
			refuses(t, i, m, base, n, diff(t, texted("zzzz"), nth(3)), api.ErrForm)
		}
	}
	takes(t, i, m, 5, 6, api.OK, 0, 5, 6)
}

// Of the errors that fit, the one that is named first counts; a refused one lets none go, where there are as many as may be.
func TestP1902RefusedWhereThereIsNoRoom(t *testing.T) {
	i, m := begun()
	for n := 1; n <= 8; n++ {
		takes(t, i, m, 0, n, api.OK, numbersUpTo(n)...)
	}
	refuses(t, i, m, 9, 8, "", api.ErrOld)
	refuses(t, i, m, 9, 9, "", api.ErrBase)
	refuses(t, i, m, 8, 9, "", api.ErrForm)
	refuses(t, i, m, 4, 9, diff(t, nth(0), nth(9))[1:], api.ErrForm)
	if all := i.All(); !slices.Equal(all, numbersUpTo(8)) {
		t.Errorf("All is %v", all)
	}
}

func TestP1902MostStates(t *testing.T) {
	i, m := begun()
	for n := 1; n <= 40; n++ {
		want := []int{0}
		for k := max(n-7, 1); k <= n; k++ {
			want = append(want, k)
		}
		takes(t, i, m, 0, n, api.OK, want...)
	}
}

// With no room left the least one goes, be it the base of the one that came.
func TestP1902TheLeastOneGoes(t *testing.T) {
	i, m := begun()
	for n := 10; n <= 80; n += 10 {
		takes(t, i, m, 0, n, api.OK, m.then(n)...)
	}
	takes(t, i, m, 10, 90, api.OK, 0, 20, 30, 40, 50, 60, 70, 80, 90)
	refuses(t, i, m, 10, 100, diff(t, nth(10), nth(100)), api.ErrBase)
	takes(t, i, m, 30, 100, api.OK, 0, 30, 40, 50, 60, 70, 80, 90, 100)
	takes(t, i, m, 40, 110, api.OK, 0, 40, 50, 60, 70, 80, 90, 100, 110)
	takes(t, i, m, 110, 111, api.OK, 0, 110, 111)
}

// then tells the numbers that are kept, and n.
func (m *inModel) then(n int) []int { return append(numbersOf(m.kept), n) }

// 0 is kept for good: all can be told from it at any time.
func TestP1902ZeroStays(t *testing.T) {
	i, m := begun()
	for n := 1; n <= 60; n++ {
		base := n - 1
		if n%3 == 0 {
			base = 0
		}
		d := diff(t, m.kept[base], nth(n))
		if err := i.Take(base, n, d); err != api.OK {
			t.Fatalf("Take(%d, %d) is %d", base, n, err)
		}
		m.take(base, n, nth(n), true)
		inIs(t, n, i, m)
		if i.All()[0] != 0 {
			t.Fatalf("0 went: %v", i.All())
		}
	}
}

func TestP1902GreatNumbers(t *testing.T) {
	i, m := begun()
	for _, n := range []int{1 << 31, 1 << 32, 1<<32 + 1, 1 << 62, math.MaxInt - 1, math.MaxInt} {
		takes(t, i, m, m.top, n, api.OK, slices.Compact([]int{0, m.top, n})...)
	}
	refuses(t, i, m, math.MaxInt, math.MaxInt, diff(t, i.Screen(), nth(1)), api.ErrOld)
	refuses(t, i, m, math.MaxInt, math.MinInt, diff(t, i.Screen(), nth(1)), api.ErrOld)
	refuses(t, i, m, 0, math.MaxInt, diff(t, nth(0), nth(1)), api.ErrOld)
}

func TestP1902ScreensAreItsOwn(t *testing.T) {
	first := nth(0)
	i, other := Begin(first), Begin(first)
	m := &inModel{kept: map[int]api.Screen{0: nth(0)}}
	scribble := func(s api.Screen) {
		for k := range s.Cells {
			s.Cells[k] = api.Cell{Rune: '?'}
		}
	}
	scribble(first)
	inIs(t, "what was handed in is turned", i, m)
	scribble(i.Screen())
	inIs(t, "what was told is turned", i, m)
	takes(t, i, m, 0, 1, api.OK, 0, 1)
	scribble(i.Screen())
	inIs(t, "what was told is turned", i, m)
	takes(t, i, m, 1, 2, api.OK, 0, 1, 2)
	takes(t, i, m, 0, 3, api.OK, 0, 1, 2, 3)
	all := i.All()
	all[0], all[3] = 9, 9
	inIs(t, "the numbers that were told are turned", i, m)
	inIs(t, "another one", other, &inModel{kept: map[int]api.Screen{0: nth(0)}})
}

func TestP1902NilIn(t *testing.T) {
	for _, i := range []*In{nil, {}} {
		for _, n := range append(slices.Clone(far), 0, 1) {
			for _, d := range []string{"", "x", diff(t, patch.Blank(2, 1), patch.Blank(2, 1))} {
				if err := i.Take(0, n, d); err != api.ErrArg {
					t.Errorf("Take of a nil one is %d", err)
				}
			}
		}
		if s := i.Screen(); i.Top() != 0 || len(i.All()) != 0 || !alike(s, api.Screen{}) || s.Cells != nil {
			t.Errorf("a nil one has %d, %v, %+v", i.Top(), i.All(), s)
		}
	}
}

// What goes is let go: behind the list nothing of it is held.
func TestP1902WhatGoesIsLetGo(t *testing.T) {
	i, m := begun()
	for n := 1; n <= 20; n++ {
		i.Take(0, n, diff(t, nth(0), nth(n)))
		m.take(0, n, nth(n), true)
	}
	takes(t, i, m, 20, 21, api.OK, 0, 20, 21)
	for _, s := range i.kept[len(i.kept):cap(i.kept)] {
		if s.screen.Cells != nil {
			t.Errorf("the state %d is held", s.number)
		}
	}
}

// Calls in any order, as the model says.
func TestP1902AnyOrder(t *testing.T) {
	for seed := range 400 {
		next := randoms(seed)
		first := drawn(next)
		i, m := Begin(first), &inModel{kept: map[int]api.Screen{0: first}}
		for k := range 120 {
			base, n := max(0, i.Top()-next(12)), i.Top()+next(4)-1
			if l := i.All(); next(3) > 0 {
				base = l[next(len(l))]
			}
			was, is := m.kept[base], drawn(next)
			if next(8) == 0 || !patch.Valid(was) {
				was = drawn(next)
			}
			d := diff(t, was, is)
			if next(8) == 0 {
				d = d[:next(len(d))]
			}
			// What the difference makes of the base is patch's to say.
			s, err := patch.Apply(m.kept[base], d)
			if got, want := i.Take(base, n, d), m.take(base, n, s, err == api.OK); got != want {
				t.Fatalf("%d, %d: Take(%d, %d, %x) is %d, not %d", seed, k, base, n, d, got, want)
			}
			inIs(t, []int{seed, k}, i, m)
		}
	}
}
