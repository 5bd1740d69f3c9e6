package tally

import (
	"math"
	"slices"
	"strconv"
	"sync"
	"testing"
)

const workers = 8 // that count at the same time

// at makes a Tally that is n.
func at(n int) *Tally {
	t := &Tally{}
	t.Swap(n)
	return t
}

// is tells whether a Tally is n.
func is(t *testing.T, what string, y *Tally, n int) {
	t.Helper()
	if now := y.Now(); now != n {
		t.Errorf("%s: it is %d, not %d", what, now, n)
	}
}

// all runs f in each worker, and waits for them.
func all(f func(k int)) {
	var w sync.WaitGroup
	for k := range workers {
		w.Go(func() { f(k) })
	}
	w.Wait()
}

func TestP301Add(t *testing.T) {
	tests := []struct {
		what  string
		start int
		l     []int
		then  int
	}{
		{"nothing", 5, nil, 5},
		{"zeros", 5, []int{0, 0}, 5},
		{"one", 5, []int{2}, 7},
		{"several", 5, []int{2, 3, 10}, 20},
		{"less than none", 5, []int{-7, 1}, -1},
		{"one beyond the greatest", math.MaxInt, []int{1}, math.MinInt},
		{"one beyond the least", math.MinInt, []int{-1}, math.MaxInt},
		{"round by the list alone", 0, []int{math.MaxInt, math.MaxInt, 2}, 0},
		{"round and back", math.MaxInt, []int{1, -1}, math.MaxInt},
		{"the least twice", math.MinInt, []int{math.MinInt}, 0},
	}
	for _, c := range tests {
		y := at(c.start)
		if n := y.Add(c.l...); n != c.then {
			t.Errorf("%s: Add is %d, not %d", c.what, n, c.then)
		}
		is(t, c.what, y, c.then)
	}
}

func TestP301Top(t *testing.T) {
	tests := []struct {
		what  string
		start int
		l     []int
		then  int
	}{
		{"nothing", 5, nil, 5},
		{"nothing, below zero", -5, nil, -5},
		{"the same", 5, []int{5}, 5},
		{"a lesser one", 5, []int{4, -9}, 5},
		{"a greater one", 5, []int{6}, 6},
		{"the greatest ahead", 5, []int{9, 7}, 9},
		{"the greatest last", 5, []int{7, 9}, 9},
		{"the greatest amidst", 5, []int{7, 9, 8}, 9},
		{"below zero", -5, []int{-9, -3}, -3},
		{"up to zero", -5, []int{0}, 0},
		{"the ends", math.MinInt, []int{math.MinInt, math.MaxInt}, math.MaxInt},
		{"the least", 5, []int{math.MinInt}, 5},
	}
	for _, c := range tests {
		y := at(c.start)
		if n := y.Top(c.l...); n != c.then {
			t.Errorf("%s: Top is %d, not %d", c.what, n, c.then)
		}
		is(t, c.what, y, c.then)
	}
}

func TestP301Swap(t *testing.T) {
	y, was := &Tally{}, 0
	for _, n := range []int{4, 4, -1, 0, math.MaxInt, math.MinInt, 7} {
		if w := y.Swap(n); w != was {
			t.Errorf("Swap(%d) is %d, not %d", n, w, was)
		}
		is(t, "Swap", y, n)
		was = n
	}
}

func TestP301If(t *testing.T) {
	tests := []struct {
		start, was, n int
		ok            bool
	}{
		{5, 5, 6, true}, {5, 5, 5, true}, {5, 5, -1, true}, {0, 0, 1, true}, {-5, -5, 0, true},
		{math.MaxInt, math.MaxInt, math.MinInt, true}, {math.MinInt, math.MinInt, math.MaxInt, true},
		{5, 4, 6, false}, {5, 6, 6, false}, {5, 0, 5, false}, {5, -5, 0, false},
		{math.MinInt, math.MaxInt, 0, false}, {0, math.MinInt, 1, false},
	}
	for _, c := range tests {
		y, then := at(c.start), c.start
		if c.ok {
			then = c.n
		}
		if ok := y.If(c.was, c.n); ok != c.ok {
			t.Errorf("%d: If(%d, %d) is %t", c.start, c.was, c.n, ok)
		}
		is(t, "If", y, then)
	}
}

func TestP301ZeroTally(t *testing.T) {
	is(t, "a zero one", &Tally{}, 0)
	if a, b, c, d := new(Tally).Add(), new(Tally).Top(), new(Tally).Top(-1), new(Tally).Swap(9); a != 0 || b != 0 || c != 0 || d != 0 {
		t.Errorf("%d %d %d %d", a, b, c, d)
	}
	if !new(Tally).If(0, 1) || new(Tally).If(1, 0) {
		t.Error("a zero one is not 0")
	}
}

func TestP301Example(t *testing.T) {
	y := &Tally{}
	if a, b, c, d := y.Add(2, 3), y.Top(4), y.Swap(1), y.Now(); a != 5 || b != 5 || c != 5 || d != 1 {
		t.Errorf("%d %d %d %d", a, b, c, d)
	}
}

func TestP301NothingIsWrittenIntoTheList(t *testing.T) {
	l := []int{3, -1, 2}
	y := &Tally{}
	y.Add(l...)
	y.Top(l...)
	if !slices.Equal(l, []int{3, -1, 2}) {
		t.Errorf("the list is %v", l)
	}
}

func TestP301NilTally(t *testing.T) {
	var y *Tally
	for range 2 {
		if a, b, c, d := y.Add(1), y.Top(1), y.Swap(1), y.Now(); a != 0 || b != 0 || c != 0 || d != 0 {
			t.Errorf("%d %d %d %d", a, b, c, d)
		}
		if y.Add() != 0 || y.Top() != 0 || y.If(0, 1) || y.If(0, 0) {
			t.Error("a nil one is something")
		}
	}
}

func TestP301Board(t *testing.T) {
	b := &Board{}
	steps := []struct {
		name    string
		n, then int
	}{
		{"b", 2, 2}, {"a", -1, -1}, {"b", 3, 5}, {"", 4, 4}, {"B", 0, 0}, {"a", 1, 0},
		{"b", math.MaxInt, math.MinInt + 4}, {"\x00\xff", 1, 1}, {"", -9, -5}, {"a ", 7, 7},
	}
	for _, s := range steps {
		if n := b.Add(s.name, s.n); n != s.then {
			t.Errorf("Add(%q, %d) is %d, not %d", s.name, s.n, n, s.then)
		}
		if n := b.Now(s.name); n != s.then {
			t.Errorf("Now(%q) is %d, not %d", s.name, n, s.then)
		}
	}
	if n, m := b.Now("b"), b.Now("c"); n != math.MinInt+4 || m != 0 {
		t.Errorf("Now is %d, and %d of none", n, m)
	}
	if l := b.Names(); !slices.Equal(l, []string{"", "\x00\xff", "B", "a", "a ", "b"}) {
		t.Errorf("Names is %q", l)
	}
}

func TestP301OnlyAddMakesAName(t *testing.T) {
	b := &Board{}
	if l, n, m := b.Names(), b.Now("a"), b.Now(""); len(l) != 0 || n != 0 || m != 0 || len(b.Names()) != 0 {
		t.Errorf("a zero one has %q, %d, %d", l, n, m)
	}
	if b.Add("z", 0); !slices.Equal(b.Names(), []string{"z"}) {
		t.Errorf("nothing more is an Add too: %q", b.Names())
	}
	if b.Now("y"); !slices.Equal(b.Names(), []string{"z"}) {
		t.Errorf("Now made a name: %q", b.Names())
	}
}

func TestP301BoardsAreTheirOwn(t *testing.T) {
	a, b := &Board{}, &Board{}
	a.Add("x", 1)
	b.Add("x", 5)
	a.Add("y", 2)
	if a.Now("x") != 1 || b.Now("x") != 5 || len(b.Names()) != 1 {
		t.Errorf("%d %d %q", a.Now("x"), b.Now("x"), b.Names())
	}
}

func TestP301NamesAreTheirOwn(t *testing.T) {
	b := &Board{}
	b.Add("a", 1)
	b.Add("b", 1)
	first := b.Names()
	first[0] = "z"
	b.Add("c", 1)
	if l := b.Names(); !slices.Equal(l, []string{"a", "b", "c"}) || !slices.Equal(first, []string{"z", "b"}) {
		t.Errorf("%q %q", l, first)
	}
}

func TestP301NilBoard(t *testing.T) {
	var b *Board
	for range 2 {
		if n, m, l := b.Add("a", 1), b.Now("a"), b.Names(); n != 0 || m != 0 || len(l) != 0 {
			t.Errorf("a nil one has %d, %d, %q", n, m, l)
		}
	}
}

// Each 1 that is added is answered to one worker alone, so the answers are all numbers, each once.
func TestP301ManyAdd(t *testing.T) {
	const each = 500
	y := &Tally{}
	var told [workers][]int
	all(func(k int) {
		for range each {
			told[k] = append(told[k], y.Add(3, -2))
		}
	})
	is(t, "all of them", y, workers*each)
	l := slices.Concat(told[:]...)
	slices.Sort(l)
	for i, n := range l {
		if n != i+1 {
			t.Fatalf("answer %d is %d", i+1, n)
		}
	}
}

// A number that another one's Top lets fall would be seen as too small by the one that raised it.
func TestP301ManyTop(t *testing.T) {
	const each = 20_000
	y := at(math.MinInt)
	all(func(k int) {
		for i := range each {
			n := i*workers + k
			if top, now := y.Top(n-1, n), y.Now(); top < n || now < top {
				t.Errorf("%d, then %d, behind Top(%d)", top, now, n)
				return
			}
		}
	})
	is(t, "the greatest one", y, each*workers-1)
}

// Of all that set the number from what it was, one alone does: it rises by the trues.
func TestP301ManyIf(t *testing.T) {
	const each = 20_000
	y := &Tally{}
	var trues [workers]int
	all(func(k int) {
		for range each {
			if n := y.Now(); y.If(n, n+1) {
				trues[k]++
			}
		}
	})
	n := 0
	for _, k := range trues {
		n += k
	}
	is(t, "all trues", y, n)
}

// What is swapped in comes out once, but for the last.
func TestP301ManySwap(t *testing.T) {
	const each = 500
	y := &Tally{}
	var sums [workers]int
	all(func(k int) {
		for i := range each {
			sums[k] += y.Swap(k*each + i)
		}
	})
	got := y.Now()
	for _, n := range sums {
		got += n
	}
	if n := workers * each; got != n*(n-1)/2 {
		t.Errorf("%d came out", got)
	}
}

func TestP301ManyOnABoard(t *testing.T) {
	const each, names = 300, 30
	b := &Board{}
	all(func(k int) {
		for i := range each {
			b.Add("all", 1)
			b.Add(strconv.Itoa((i+k)%names), 2)
			if b.Now("all") < i+1 || !slices.IsSorted(b.Names()) {
				t.Error("what was added is not there")
			}
		}
	})
	if n, l := b.Now("all"), b.Names(); n != workers*each || len(l) != names+1 || !slices.IsSorted(l) {
		t.Errorf("%d of %q", n, l)
	}
	for i := range names {
		if n := b.Now(strconv.Itoa(i)); n != 2*workers*each/names {
			t.Errorf("%d has %d", i, n)
		}
	}
}
