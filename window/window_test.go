package window

import (
	"math"
	"testing"
)

const last = 1 << 62 // the greatest number that may come

// marks tells whether Mark answers that, and Fresh the same.
func marks(t *testing.T, what string, w Window, n int, after Window, ok bool) {
	t.Helper()
	if fresh := w.Fresh(n); fresh != ok {
		t.Errorf("%s: Fresh(%d) of %v is %t", what, n, w, fresh)
	}
	if got, is := w.Mark(n); got != after || is != ok {
		t.Errorf("%s: Mark(%d) of %v is %v, %t, not %v, %t", what, n, w, got, is, after, ok)
	}
}

// none tells whether a number is not fresh, and Mark answers the same Window.
func none(t *testing.T, what string, w Window, n int) {
	t.Helper()
	marks(t, what, w, n, w, false)
}

// with makes a Window that has seen numbers, in that order.
func with(t *testing.T, l ...int) Window {
	t.Helper()
	var w Window
	for _, n := range l {
		next, ok := w.Mark(n)
		if !ok {
			t.Fatalf("%d is not fresh in %v", n, w)
		}
		w = next
	}
	return w
}

// of makes a Seen of its bits.
func of(l ...int) uint64 {
	var seen uint64
	for _, k := range l {
		seen |= 1 << k
	}
	return seen
}

func TestP601Example(t *testing.T) {
	var w Window
	marks(t, "the first", w, 5, Window{Top: 5, Seen: 1}, true)
	marks(t, "the second", Window{Top: 5, Seen: 1}, 3, Window{Top: 5, Seen: 5}, true)
	w = with(t, 5, 3)
	if w.Fresh(5) || !w.Fresh(4) || Wide != 64 {
		t.Errorf("Fresh(5) is %t, Fresh(4) is %t, Wide %d", w.Fresh(5), w.Fresh(4), Wide)
	}
}

func TestP601ZeroHasSeenNothing(t *testing.T) {
	var w Window
	for _, n := range []int{1, 2, 63, 64, 65, 1000, math.MaxInt32, math.MaxInt32 + 1, last - 1, last} {
		marks(t, "a zero one", w, n, Window{Top: n, Seen: 1}, true)
	}
	if w.Old() != 0 {
		t.Errorf("Old of a zero one is %d", w.Old())
	}
}

func TestP601NumbersThatMayNotBe(t *testing.T) {
	for _, w := range []Window{{}, with(t, 1), with(t, 64), with(t, 100, 90), with(t, last-1), with(t, last)} {
		for _, n := range []int{0, -1, -63, -64, -65, -last, math.MinInt + 1, math.MinInt, last + 1, last + 63, math.MaxInt} {
			none(t, "no number", w, n)
		}
	}
}

func TestP601MarkedIsNotFreshAnyMore(t *testing.T) {
	order := []int{7, 1, 9, 70, 8, 71, 134, 72, 133, last - 3, last, last - 63}
	for k := range order {
		w := with(t, order[:k+1]...)
		for _, n := range order[:k+1] {
			none(t, "marked", w, n)
		}
	}
}

func TestP601Below(t *testing.T) {
	tests := []struct {
		top, n int
		fresh  bool
	}{
		{63, 1, true}, {64, 1, true}, {65, 1, false}, {65, 2, true}, {66, 2, false}, {66, 3, true},
		{100, 1, false}, {100, 35, false}, {100, 36, false}, {100, 37, true}, {100, 99, true}, {100, 100, false},
		{128, 64, false}, {128, 65, true},
		{last, 1, false}, {last, last - 64, false}, {last, last - 63, true}, {last, last - 1, true}, {last, last, false},
	}
	for _, c := range tests {
		w := with(t, c.top)
		if c.fresh {
			marks(t, "kept", w, c.n, Window{Top: c.top, Seen: of(0, c.top-c.n)}, true)
		} else {
			none(t, "too old, or seen", w, c.n)
		}
	}
}

func TestP601Above(t *testing.T) {
	w := with(t, 5, 3, 1)
	tests := []struct {
		n    int
		seen uint64
	}{
		{6, of(0, 1, 3, 5)}, {7, of(0, 2, 4, 6)}, {64, of(0, 59, 61, 63)}, {65, of(0, 60, 62)}, {66, of(0, 61, 63)},
		{67, of(0, 62)}, {68, of(0, 63)}, {69, 1}, {70, 1}, {133, 1}, {5 + 1<<32, 1}, {6 + 1<<32, 1}, {last - 1, 1}, {last, 1},
	}
	for _, c := range tests {
		marks(t, "above", w, c.n, Window{Top: c.n, Seen: c.seen}, true)
	}
}

func TestP601EachBit(t *testing.T) {
	const top = 1000
	for k := range Wide {
		for _, seen := range []uint64{0, of(k), ^of(k), math.MaxUint64} {
			w := Window{Top: top, Seen: seen}
			if seen&of(k) != 0 {
				none(t, "its bit is there", w, top-k)
			} else {
				marks(t, "its bit is not there", w, top-k, Window{Top: top, Seen: seen | of(k)}, true)
			}
		}
	}
	for _, k := range []int{64, 65, 127, 128, 999} {
		none(t, "it has no bit", Window{Top: top}, top-k)
		none(t, "it has no bit", Window{Top: top, Seen: math.MaxUint64}, top-k)
	}
}

func TestP601Old(t *testing.T) {
	tests := []struct{ top, old int }{
		{0, 0}, {1, 0}, {63, 0}, {64, 0}, {65, 1}, {66, 2}, {100, 36}, {1 << 40, 1<<40 - 64}, {last - 1, last - 65}, {last, last - 64},
	}
	for _, c := range tests {
		for _, seen := range []uint64{0, 1, math.MaxUint64} {
			w := Window{Top: c.top, Seen: seen}
			if w.Old() != c.old {
				t.Errorf("Old of %v is %d, not %d", w, w.Old(), c.old)
			}
			none(t, "Old", w, c.old)
			none(t, "below Old", w, c.old-1)
		}
		if w := (Window{Top: c.top}); !w.Fresh(c.old + 1) {
			t.Errorf("the number above Old of %v is not fresh", w)
		}
	}
}

func TestP601TheOneOfBeforeStays(t *testing.T) {
	w := with(t, 5, 3)
	w.Mark(4)
	w.Mark(900)
	w.Mark(5)
	if want := (Window{Top: 5, Seen: of(0, 2)}); w != want {
		t.Errorf("%v, not %v", w, want)
	}
}

// Nothing is said of such ones, but no call may panic (DOC.md, rule 8).
func TestP601OutsideNothingPanics(t *testing.T) {
	tops := []int{math.MinInt, math.MinInt + 1, math.MinInt + 64, -last, -65, -64, -1, last + 1, last + 64, math.MaxInt - 1, math.MaxInt}
	for _, top := range tops {
		for _, n := range append(tops, 0, 1, 63, 64, 65, last-1, last) {
			w := Window{Top: top, Seen: math.MaxUint64}
			w.Fresh(n)
			w.Mark(n)
			w.Old()
		}
	}
}

// TestP601LongRun holds a Window, number by number, against a list of all that came.
func TestP601LongRun(t *testing.T) {
	for _, spread := range []int{3, 40, 80, 300} {
		var w Window
		came, top, seed := map[int]bool{}, 0, uint32(spread)
		for range 5000 {
			seed = seed*1664525 + 1013904223
			n := top - spread/2 + int(seed>>16)%spread
			ok := n >= 1 && n > top-64 && !came[n]
			next, is := w.Mark(n)
			if fresh := w.Fresh(n); fresh != ok || is != ok || !ok && next != w {
				t.Fatalf("%d in %v: Fresh is %t, Mark %v, %t, not %t", n, w, fresh, next, is, ok)
			}
			w = next
			if ok {
				came[n], top = true, max(top, n)
			}
			var seen uint64
			for k := range min(64, top) {
				if came[top-k] {
					seen |= 1 << k
				}
			}
			if w.Top != top || w.Seen != seen || w.Old() != max(top-64, 0) {
				t.Fatalf("%v, Old %d, not %d, %x", w, w.Old(), top, seen)
			}
		}
	}
}
