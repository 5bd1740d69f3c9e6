package chart

import (
	"math"
	"math/rand"
	"slices"
	"testing"
)

// edges are columns about the ends of each width, and far ones.
func edges() []int {
	l := []int{math.MinInt, math.MinInt + 1, math.MinInt / 2, -1 << 32, -64, 64, 128, 1 << 32, 1<<32 + 8, math.MaxInt / 2, math.MaxInt - 1, math.MaxInt}
	for x := -10; x <= 50; x++ {
		l = append(l, x)
	}
	return l
}

// widthOf tells how wide Stops of New(w) are.
func widthOf(w int) int {
	switch {
	case w < 0:
		return 0
	case w > 40:
		return 40
	}
	return w
}

// eights tells the stops of New, by the chapter's words.
func eights(w int) []int {
	var l []int
	for _, x := range []int{8, 16, 24, 32} {
		if x < w {
			l = append(l, x)
		}
	}
	return l
}

// next tells what Next should: stops rise.
func next(stops []int, w, x int) int {
	for _, s := range stops {
		if s > x {
			return s
		}
	}
	if w == 0 {
		return 0
	}
	return w - 1
}

// holds tells whether Stops, w wide, have those stops, whichever call is asked.
func holds(t *testing.T, what any, s *Stops, w int, stops []int) {
	t.Helper()
	if got := s.All(); !slices.Equal(got, stops) {
		t.Errorf("%v: %v, not %v", what, got, stops)
	}
	for _, x := range edges() {
		if got, want := s.Next(x), next(stops, w, x); got != want {
			t.Errorf("%v: Next(%d) is %d, not %d", what, x, got, want)
		}
	}
}

// every tells all columns of a width.
func every(w int) []int {
	var l []int
	for x := range w {
		l = append(l, x)
	}
	return l
}

func TestP1601New(t *testing.T) {
	for _, w := range edges() {
		holds(t, w, New(w), widthOf(w), eights(widthOf(w)))
	}
}

func TestP1601NewIsNewEachTime(t *testing.T) {
	s, other := New(20), New(20)
	s.Set(1)
	s.Clear(8)
	holds(t, "one", s, 20, []int{1, 16})
	holds(t, "another one", other, 20, []int{8, 16})
	holds(t, "one more", New(20), 20, []int{8, 16})
}

func TestP1601NextOfNone(t *testing.T) {
	for w, want := range map[int]int{math.MinInt: 0, -1: 0, 0: 0, 1: 0, 2: 1, 8: 7, 9: 8, 39: 38, 40: 39, 41: 39, math.MaxInt: 39} {
		s := New(w)
		s.None()
		for _, x := range edges() {
			if got := s.Next(x); got != want {
				t.Errorf("New(%d): Next(%d) is %d, not %d", w, x, got, want)
			}
		}
	}
}

// The stop at x itself is none that is above x, nor is one at 0 above 0.
func TestP1601NextIsAbove(t *testing.T) {
	s := New(40)
	s.Set(every(40)...)
	for x := -3; x < 39; x++ {
		if got, want := s.Next(x), max(x+1, 0); got != want {
			t.Errorf("Next(%d) is %d, not %d", x, got, want)
		}
	}
	if a, b := s.Next(39), s.Next(40); a != 39 || b != 39 {
		t.Errorf("beyond the last column: %d, %d", a, b)
	}
}

// Each column alone, in each width: what is outside sets nothing, and takes nothing away.
func TestP1601SetAndClearOne(t *testing.T) {
	for w := 0; w <= 41; w++ {
		wide := widthOf(w)
		for _, x := range edges() {
			var only []int
			if x >= 0 && x < wide {
				only = []int{x}
			}
			s := New(w)
			s.None()
			s.Set(x)
			holds(t, []any{"Set", w, x}, s, wide, only)
			s.Set(every(wide)...)
			s.Clear(x)
			left := slices.DeleteFunc(every(wide), func(i int) bool { return slices.Contains(only, i) })
			holds(t, []any{"Clear", w, x}, s, wide, left)
		}
	}
}

func TestP1601SetMany(t *testing.T) {
	s := New(20)
	s.Set()
	holds(t, "Set of none", s, 20, []int{8, 16})
	s.Set(19, -1, 3, 20, 19, 0, math.MaxInt, 8, math.MinInt)
	holds(t, "Set", s, 20, []int{0, 3, 8, 16, 19})
	s.Clear()
	holds(t, "Clear of none", s, 20, []int{0, 3, 8, 16, 19})
	s.Clear(20, 16, 1, -1, 16, math.MinInt, 0, math.MaxInt)
	holds(t, "Clear", s, 20, []int{3, 8, 19})
}

func TestP1601SetKeepsNothing(t *testing.T) {
	s, l := New(20), []int{5, 3, -1}
	s.Set(l...)
	if !slices.Equal(l, []int{5, 3, -1}) {
		t.Errorf("Set changed what was handed in: %v", l)
	}
	l[0] = 7
	holds(t, "what was handed in changed", s, 20, []int{3, 5, 8, 16})
	s.Clear(l...)
	if !slices.Equal(l, []int{7, 3, -1}) {
		t.Errorf("Clear changed what was handed in: %v", l)
	}
	holds(t, "Clear", s, 20, []int{5, 8, 16})
}

func TestP1601None(t *testing.T) {
	for w := 0; w <= 40; w++ {
		s := New(w)
		s.Set(every(w)...)
		s.None()
		holds(t, w, s, w, nil)
		s.None()
		holds(t, w, s, w, nil)
		s.Set(every(w)...)
		holds(t, w, s, w, every(w))
	}
}

func TestP1601AllIsNew(t *testing.T) {
	s := New(40)
	a, b := s.All(), s.All()
	a[0], a[3] = 1, 2
	_ = append(a[:1], 99)
	if !slices.Equal(b, []int{8, 16, 24, 32}) {
		t.Errorf("another answer: %v", b)
	}
	s.Set(1)
	if !slices.Equal(b, []int{8, 16, 24, 32}) {
		t.Errorf("an answer of before: %v", b)
	}
	holds(t, "All", s, 40, []int{1, 8, 16, 24, 32})
}

func TestP1601Copy(t *testing.T) {
	for w := 0; w <= 41; w++ {
		wide := widthOf(w)
		s := New(w)
		c := s.Copy()
		if c == nil || c == s {
			t.Fatalf("New(%d): its copy is %p, and it is %p", w, c, s)
		}
		holds(t, []any{w, "copy"}, c, wide, eights(wide))
		c.None()
		holds(t, []any{w, "what was copied"}, s, wide, eights(wide))
		s.Set(every(wide)...)
		holds(t, []any{w, "copy"}, c, wide, nil)
		holds(t, []any{w, "copy of one that was turned"}, s.Copy(), wide, every(wide))
	}
}

// It is ready nowhere by the chapter's words, so that a zero one is as a nil one.
func TestP1601NilAndZero(t *testing.T) {
	var none *Stops
	for what, s := range map[string]*Stops{"nil": none, "zero": {}} {
		for range 2 {
			holds(t, what, s, 0, nil)
			if s.All() != nil || s.Copy() != nil {
				t.Errorf("%s: %v, %v", what, s.All(), s.Copy())
			}
			s.Set(0, 1, -1, 8)
			s.Clear(0, 1, -1, 8)
			s.Set()
			s.Clear()
			s.None()
		}
	}
}

// A long course of calls, held against a list that is sorted anew each time.
func TestP1601Course(t *testing.T) {
	r := rand.New(rand.NewSource(16))
	for range 300 {
		w := r.Intn(44) - 1
		wide := widthOf(w)
		s, stops := New(w), eights(wide)
		for range 40 {
			var l []int
			for range r.Intn(4) {
				l = append(l, r.Intn(46)-3)
			}
			switch r.Intn(8) {
			case 0, 1, 2, 3:
				s.Set(l...)
				stops = append(stops, slices.DeleteFunc(slices.Clone(l), func(x int) bool { return x < 0 || x >= wide })...)
				slices.Sort(stops)
				stops = slices.Compact(stops)
			case 4, 5:
				s.Clear(l...)
				stops = slices.DeleteFunc(stops, func(x int) bool { return slices.Contains(l, x) })
			case 6:
				s = s.Copy()
			case 7:
				if r.Intn(4) == 0 {
					s.None()
					stops = nil
				}
			}
			holds(t, w, s, wide, stops)
		}
	}
}
