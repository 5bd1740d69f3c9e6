package states

import (
	"slices"
	"testing"

	"pontoon/api"
	"pontoon/patch"
)

// added makes an Out of 0 and the states 1 to n.
func added(t *testing.T, n int) (*Out, *outModel) {
	t.Helper()
	o, m := New(nth(0)), &outModel{kept: map[int]api.Screen{0: nth(0)}}
	addTo(t, o, m, n)
	return o, m
}

// addTo adds states till the top is n.
func addTo(t *testing.T, o *Out, m *outModel, n int) {
	t.Helper()
	for k := m.top + 1; k <= n; k++ {
		m.add(nth(k), true)
		if top := o.Add(nth(k)); top != k {
			t.Fatalf("Add is %d, not %d", top, k)
		}
	}
}

// acks tells whether Ack answers that, and what is kept then.
func acks(t *testing.T, o *Out, m *outModel, n int, want bool, base int, all ...int) {
	t.Helper()
	if ok := o.Ack(n); ok != want || o.Base() != base || !slices.Equal(o.All(), all) {
		t.Errorf("Ack(%d) is %t, the base %d, All %v, not %t, %d, %v", n, ok, o.Base(), o.All(), want, base, all)
	}
	m.ack(n)
	outIs(t, n, o, m)
}

func TestP1901Example(t *testing.T) {
	blank, x := patch.Blank(4, 1), texted("x")
	o := New(blank)
	if a, b := o.Add(blank), o.Add(x); a != 0 || b != 1 {
		t.Errorf("Add is %d, %d", a, b)
	}
	if base, top, d := o.Patch(); base != 0 || top != 1 || d != "\x04\x01\x00\x00\x00\x01\x00\x01x\x00\x00\x00" {
		t.Errorf("Patch is %d, %d, %x", base, top, d)
	}
}

func TestP1901New(t *testing.T) {
	hidden := turned(texted("ab"), func(s *api.Screen) { s.X, s.Hidden = 3, true })
	for _, s := range []api.Screen{texted(""), hidden, patch.Blank(2, 1), patch.Blank(40, 20), patch.Blank(7, 3)} {
		outIs(t, "a Valid one", New(s), &outModel{kept: map[int]api.Screen{0: s}})
	}
	for i, s := range wrongs() {
		outIs(t, i, New(s), &outModel{kept: map[int]api.Screen{0: patch.Blank(2, 1)}})
	}
}

// Whatever one field or one cell it is by, another screen than the top's is a new state; the same one is none.
func TestP1901AddOfAnotherScreen(t *testing.T) {
	top := turned(texted("abcd"), func(s *api.Screen) { s.W, s.H = 2, 2 })
	for i, turn := range []func(s *api.Screen){
		func(s *api.Screen) { s.W, s.H = 4, 1 },
		func(s *api.Screen) { s.X = 1 },
		func(s *api.Screen) { s.Y = 1 },
		func(s *api.Screen) { s.Hidden = true },
		func(s *api.Screen) { s.Cells[0].Rune++ },
		func(s *api.Screen) { s.Cells[3].Rune++ },
		func(s *api.Screen) { s.Cells[3].Attr.Fg = 16 },
		func(s *api.Screen) { s.Cells[3].Attr.Bg = 16 },
		func(s *api.Screen) { s.Cells[3].Attr.Bold = true },
		func(s *api.Screen) { s.Cells[3].Attr.Under = true },
		func(s *api.Screen) { s.Cells[3].Attr.Inverse = true },
	} {
		o, m := New(top), &outModel{kept: map[int]api.Screen{0: top}}
		for round := range 3 {
			for k, s := range []api.Screen{top, turned(top, turn), turned(top, turn), top} {
				m.add(s, true)
				if n, want := o.Add(s), 2*round+[]int{0, 1, 1, 2}[k]; n != want {
					t.Errorf("%d: Add of the screen %d is %d, not %d", i, k, n, want)
				}
				outIs(t, i, o, m)
			}
		}
	}
}

func TestP1901AddOfWrongs(t *testing.T) {
	o, m := added(t, 3)
	for _, base := range []int{0, 2, 3} {
		o.Ack(base)
		m.ack(base)
		for i, s := range wrongs() {
			if n := o.Add(s); n != 3 {
				t.Errorf("Add of the wrong one %d is %d", i, n)
			}
			outIs(t, i, o, m)
		}
	}
	if n := o.Add(nth(4)); n != 4 {
		t.Errorf("Add of one behind them is %d", n)
	}
}

// A wrong screen is none, even where the wrong one that New was handed is Same as it.
func TestP1901AddOfTheWrongOneThatBegan(t *testing.T) {
	for i, s := range wrongs() {
		o := New(s)
		if a, b, c := o.Add(s), o.Add(patch.Blank(2, 1)), o.Add(patch.Blank(1, 0)); a != 0 || b != 0 || c != 0 {
			t.Errorf("%d: Add is %d, %d, %d", i, a, b, c)
		}
	}
}

func TestP1901MostStates(t *testing.T) {
	o, m := New(nth(0)), &outModel{kept: map[int]api.Screen{0: nth(0)}}
	for n := 1; n <= 40; n++ {
		addTo(t, o, m, n)
		outIs(t, n, o, m)
		want := []int{0}
		for k := max(n-7, 1); k <= n; k++ {
			want = append(want, k)
		}
		if !slices.Equal(o.All(), want) {
			t.Errorf("All is %v, not %v", o.All(), want)
		}
	}
}

// What is not added lets none go.
func TestP1901NothingGoesForNothing(t *testing.T) {
	o, m := added(t, 8)
	for range 3 {
		o.Add(nth(8))
		o.Add(api.Screen{})
		outIs(t, "nothing was added", o, m)
	}
	if all := o.All(); !slices.Equal(all, numbersUpTo(8)) {
		t.Errorf("All is %v", all)
	}
}

func TestP1901TheBaseStays(t *testing.T) {
	for base := 1; base <= 8; base++ {
		o, m := added(t, 8)
		o.Ack(base)
		m.ack(base)
		for n := 9; n <= 30; n++ {
			addTo(t, o, m, n)
			outIs(t, base, o, m)
		}
		if all := o.All(); !slices.Equal(all, []int{0, base, 24, 25, 26, 27, 28, 29, 30}) {
			t.Errorf("All is %v with the base %d", all, base)
		}
	}
}

func TestP1901Ack(t *testing.T) {
	o, m := added(t, 6)
	for _, n := range append(slices.Clone(far), 0, 7, 8) {
		acks(t, o, m, n, false, 0, 0, 1, 2, 3, 4, 5, 6)
	}
	acks(t, o, m, 3, true, 3, 0, 3, 4, 5, 6)
	for _, n := range append(slices.Clone(far), 0, 1, 2, 3, 7) {
		acks(t, o, m, n, false, 3, 0, 3, 4, 5, 6)
	}
	acks(t, o, m, 4, true, 4, 0, 4, 5, 6)
	acks(t, o, m, 6, true, 6, 0, 6)
	acks(t, o, m, 6, false, 6, 0, 6)
	acks(t, o, m, 7, false, 6, 0, 6)
	addTo(t, o, m, 7)
	acks(t, o, m, 7, true, 7, 0, 7)
}

func TestP1901AckOfTheFirst(t *testing.T) {
	o, m := added(t, 0)
	acks(t, o, m, 0, false, 0, 0)
	acks(t, o, m, 1, false, 0, 0)
	addTo(t, o, m, 1)
	acks(t, o, m, 1, true, 1, 0, 1)
}

// Those that went leave 0 as the base, and nothing else goes for it; what is kept may be taken then, be it below.
func TestP1901AckOfWhatWent(t *testing.T) {
	o, m := added(t, 12)
	acks(t, o, m, 4, true, 0, 0, 5, 6, 7, 8, 9, 10, 11, 12)
	acks(t, o, m, 4, true, 0, 0, 5, 6, 7, 8, 9, 10, 11, 12)
	acks(t, o, m, 5, true, 5, 0, 5, 6, 7, 8, 9, 10, 11, 12)
	addTo(t, o, m, 15)
	acks(t, o, m, 8, true, 0, 0, 5, 9, 10, 11, 12, 13, 14, 15)
	acks(t, o, m, 5, true, 5, 0, 5, 9, 10, 11, 12, 13, 14, 15)
	acks(t, o, m, 5, false, 5, 0, 5, 9, 10, 11, 12, 13, 14, 15)
	acks(t, o, m, 6, true, 0, 0, 5, 9, 10, 11, 12, 13, 14, 15)
	addTo(t, o, m, 16)
	acks(t, o, m, 5, true, 0, 0, 9, 10, 11, 12, 13, 14, 15, 16)
	acks(t, o, m, 16, true, 16, 0, 16)
	acks(t, o, m, 5, false, 16, 0, 16)
}

// 0 is kept for good, and told of as it was.
func TestP1901ZeroStays(t *testing.T) {
	o, m := added(t, 0)
	for n := 1; n <= 60; n++ {
		addTo(t, o, m, n)
		if n%7 == 0 {
			o.Ack(n - n%5)
			m.ack(n - n%5)
		}
		if s, ok := o.Get(0); !ok || !alike(s, nth(0)) {
			t.Fatalf("with %d states, 0 is %+v, %t", n, s, ok)
		}
		outIs(t, n, o, m)
	}
}

func TestP1901PatchOfSizes(t *testing.T) {
	screens := []api.Screen{patch.Blank(2, 1), patch.Blank(40, 20), texted("abcd"), turned(texted("abcd"), func(s *api.Screen) { s.W, s.H = 2, 2 }), texted("ab")}
	for _, was := range screens {
		o := New(was)
		base := 0
		for _, s := range screens {
			n := o.Add(s)
			if from, top, d := o.Patch(); from != base || top != n || d != diff(t, was, s) {
				t.Errorf("Patch is %d, %d, %x, not %d, %d, %x", from, top, d, base, n, diff(t, was, s))
			}
			if o.Ack(n) {
				was, base = s, n
			}
			if from, top, d := o.Patch(); from != base || top != n || d != diff(t, s, s) {
				t.Errorf("Patch of none is %d, %d, %x", from, top, d)
			}
		}
	}
}

func TestP1901ScreensAreItsOwn(t *testing.T) {
	first, second := nth(0), nth(1)
	o, other := New(first), New(first)
	o.Add(second)
	other.Add(second)
	scribble := func(s api.Screen) {
		for i := range s.Cells {
			s.Cells[i] = api.Cell{Rune: '?'}
		}
	}
	scribble(first)
	scribble(second)
	m := &outModel{kept: map[int]api.Screen{0: nth(0), 1: nth(1)}, top: 1}
	outIs(t, "what was handed in is turned", o, m)
	for n := range 2 {
		s, _ := o.Get(n)
		scribble(s)
	}
	outIs(t, "what was told is turned", o, m)
	outIs(t, "another one", other, m)
	all := o.All()
	all[0], all[1] = 7, 7
	outIs(t, "the numbers that were told are turned", o, m)
}

// Nothing is written into the cells that are handed in, nor behind them.
func TestP1901NothingIsWrittenIntoAScreen(t *testing.T) {
	cells := slices.Repeat([]api.Cell{{Rune: 'a'}}, 8)
	s := api.Screen{W: 4, H: 1, Cells: cells[:4]}
	o := New(s)
	for n := range 20 {
		s.X = n % 4
		o.Add(s)
		o.Ack(n / 2)
		o.Patch()
	}
	if !slices.Equal(cells, slices.Repeat([]api.Cell{{Rune: 'a'}}, 8)) {
		t.Errorf("the cells are %v", cells)
	}
}

func TestP1901OutsAreTheirOwn(t *testing.T) {
	a, m := added(t, 3)
	b, n := added(t, 12)
	a.Ack(2)
	m.ack(2)
	outIs(t, "the one", a, m)
	outIs(t, "the other", b, n)
}

func TestP1901NilOut(t *testing.T) {
	for _, o := range []*Out{nil, {}} {
		for range 2 {
			for _, n := range append(slices.Clone(far), 0, 1, 2) {
				if s, ok := o.Get(n); o.Ack(n) || ok || !alike(s, api.Screen{}) || s.Cells != nil {
					t.Errorf("a nil one has %+v, %t at %d", s, ok, n)
				}
			}
			base, top, d := o.Patch()
			if n := o.Add(nth(1)); n != 0 || o.Add(api.Screen{}) != 0 || o.Base() != 0 || o.Top() != 0 || len(o.All()) != 0 || base != 0 || top != 0 || d != "" {
				t.Errorf("a nil one: Add %d, Base %d, Top %d, All %v, Patch %d, %d, %x", n, o.Base(), o.Top(), o.All(), base, top, d)
			}
		}
	}
}

// What goes is let go: behind the list nothing of it is held.
func TestP1901WhatGoesIsLetGo(t *testing.T) {
	o, m := added(t, 20)
	acks(t, o, m, 19, true, 19, 0, 19, 20)
	for _, s := range o.kept[len(o.kept):cap(o.kept)] {
		if s.screen.Cells != nil {
			t.Errorf("the state %d is held", s.number)
		}
	}
}

// Calls in any order, as the model says.
func TestP1901AnyOrder(t *testing.T) {
	bad := wrongs()
	for seed := range 400 {
		next := randoms(seed)
		first := drawn(next)
		o, m := New(first), &outModel{kept: map[int]api.Screen{0: first}}
		for i := range 120 {
			what := []int{seed, i}
			switch next(8) {
			case 0, 1:
				n := max(0, o.Top()-next(14)) + next(3)
				if ok, want := o.Ack(n), m.ack(n); ok != want {
					t.Fatalf("%v: Ack(%d) is %t", what, n, ok)
				}
			case 2:
				if n, want := o.Add(bad[next(len(bad))]), m.top; n != want {
					t.Fatalf("%v: Add of a wrong one is %d, not %d", what, n, want)
				}
			default:
				s := drawn(next)
				if n, want := o.Add(s), m.add(s, true); n != want {
					t.Fatalf("%v: Add is %d, not %d", what, n, want)
				}
			}
			outIs(t, what, o, m)
		}
	}
}
