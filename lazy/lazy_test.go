package lazy

import (
	"math"
	"runtime"
	"strconv"
	"sync"
	"sync/atomic"
	"testing"
)

const workers = 8 // that ask at the same time

// all runs f in each worker, and waits for them.
func all(f func(k int)) {
	var w sync.WaitGroup
	for k := range workers {
		w.Go(func() { f(k) })
	}
	w.Wait()
}

// gets tells whether a Lazy answers that text, and is made then.
func gets(t *testing.T, what string, y *Lazy, make func() string, text string) {
	t.Helper()
	if s := y.Get(make); s != text {
		t.Errorf("%s: Get is %q, not %q", what, s, text)
	}
	if !y.Made() {
		t.Errorf("%s: it is not made", what)
	}
}

// never is a make that may not be called.
func never(t *testing.T) func() string {
	return func() string {
		t.Error("a make was called that is not the first one")
		return "another one"
	}
}

// stays asks again and again for a text that was made.
func stays(t *testing.T, what string, y *Lazy, text string) {
	t.Helper()
	for range 3 {
		gets(t, what, y, never(t), text)
		gets(t, what, y, nil, text)
	}
}

func TestP401GetIsTheFirstMakes(t *testing.T) {
	for _, text := range []string{"a", "", "two words", "\x00\xff"} {
		y, calls := &Lazy{}, 0
		count := func() string {
			calls++
			return text
		}
		gets(t, "the first", y, count, text)
		gets(t, "the same once more", y, count, text)
		stays(t, "others", y, text)
		if calls != 1 {
			t.Errorf("%q was made %d times", text, calls)
		}
	}
}

// A make that would answer otherwise the next time isn't asked anew.
func TestP401GetIsKept(t *testing.T) {
	y, n := &Lazy{}, 0
	count := func() string {
		n++
		return strconv.Itoa(n)
	}
	for range 4 {
		gets(t, "a count", y, count, "1")
	}
	gets(t, "another Lazy", &Lazy{}, count, "2")
	gets(t, "the one of before", y, count, "1")
}

func TestP401NilMakeIsForGood(t *testing.T) {
	y := &Lazy{}
	gets(t, "a nil make", y, nil, "")
	stays(t, "behind a nil make", y, "")
}

// Nothing panics (DOC.md, rule 8), whatever is handed in: such a make was called, and answered nothing.
func TestP401PanicIsForGood(t *testing.T) {
	var gone []int
	for _, make := range []func() string{
		func() string { panic("at once") },
		func() string { panic(nil) },
		func() string { return strconv.Itoa(gone[1]) },
	} {
		y := &Lazy{}
		gets(t, "a panic", y, make, "")
		stays(t, "behind a panic", y, "")
	}
}

// A make that ends its goroutine was called as well: who asks then must not wait for it.
func TestP401ExitIsForGood(t *testing.T) {
	y := &Lazy{}
	var w sync.WaitGroup
	w.Go(func() {
		y.Get(func() string {
			runtime.Goexit()
			return "never"
		})
	})
	w.Wait()
	stays(t, "behind an exit", y, "")
}

func TestP401Made(t *testing.T) {
	y, inside := &Lazy{}, false
	if y.Made() || y.Made() {
		t.Error("a zero one is made")
	}
	gets(t, "Made in a make", y, func() string {
		inside = y.Made()
		return "a"
	}, "a")
	if !inside {
		t.Error("Get was called, and Made says no")
	}
	stays(t, "behind Made", y, "a")
}

func TestP401LaziesAreTheirOwn(t *testing.T) {
	a, b, c := &Lazy{}, &Lazy{}, &Lazy{}
	gets(t, "one that asks another", a, func() string {
		return "a" + b.Get(func() string { return "b" })
	}, "ab")
	stays(t, "the other", b, "b")
	stays(t, "the one", a, "ab")
	if c.Made() {
		t.Error("a third one is made")
	}
}

func TestP401NilLazy(t *testing.T) {
	var y *Lazy
	for range 2 {
		if s, u := y.Get(never(t)), y.Get(nil); s != "" || u != "" || y.Made() {
			t.Errorf("a nil one has %q, %q, %t", s, u, y.Made())
		}
	}
}

// Of many that ask at the same time, one has its make called, and all get what it answered.
func TestP401ManyGet(t *testing.T) {
	for range 200 {
		y := &Lazy{}
		var calls atomic.Int64
		var told [workers]string
		all(func(k int) {
			told[k] = y.Get(func() string {
				runtime.Gosched()
				return strconv.Itoa(int(calls.Add(1))*100 + k)
			})
		})
		if calls.Load() != 1 {
			t.Fatalf("%d makes were called", calls.Load())
		}
		for _, s := range told {
			if s != told[0] || len(s) != 3 {
				t.Fatalf("%q were told", told)
			}
		}
	}
}

// Who asks while the first make is at work gets its answer, and so not ahead of it; Made doesn't wait.
func TestP401GetWaitsForTheFirst(t *testing.T) {
	y, begun, end := &Lazy{}, make(chan bool), make(chan bool)
	var first, others, asking sync.WaitGroup
	var told atomic.Int64
	first.Go(func() {
		gets(t, "the first", y, func() string {
			close(begun)
			<-end
			return "slow"
		}, "slow")
	})
	<-begun
	asking.Add(workers)
	for range workers {
		others.Go(func() {
			asking.Done()
			gets(t, "another", y, never(t), "slow")
			told.Add(1)
		})
	}
	asking.Wait()
	for range 1000 {
		runtime.Gosched()
	}
	if !y.Made() || told.Load() != 0 {
		t.Errorf("made %t, told %d ahead of the first one's answer", y.Made(), told.Load())
	}
	close(end)
	first.Wait()
	others.Wait()
}

// isOpen tells whether a Door is open to n.
func isOpen(t *testing.T, what string, d *Door, n int) {
	t.Helper()
	if is, who := d.Is(), d.Who(); !is || who != n {
		t.Errorf("%s: %t, %d, not open to %d", what, is, who, n)
	}
}

// isShut tells whether a Door is shut.
func isShut(t *testing.T, what string, d *Door) {
	t.Helper()
	if is, who := d.Is(), d.Who(); is || who != 0 {
		t.Errorf("%s: %t, %d, not shut", what, is, who)
	}
}

func TestP401Door(t *testing.T) {
	for _, n := range []int{3, 1, 0, -1, math.MaxInt, math.MinInt} {
		d := &Door{}
		isShut(t, "a zero one", d)
		isShut(t, "one that was asked", d)
		if !d.Open(n) {
			t.Errorf("Open(%d) of a shut one is false", n)
		}
		isOpen(t, "the first", d, n)
		for _, m := range []int{n, n + 1, 0, 4, -9} {
			if d.Open(m) {
				t.Errorf("Open(%d) behind Open(%d) is true", m, n)
			}
			isOpen(t, "others", d, n)
		}
	}
}

func TestP401Example(t *testing.T) {
	d := &Door{}
	if a, b, n := d.Open(3), d.Open(4), d.Who(); !a || b || n != 3 {
		t.Errorf("%t %t %d", a, b, n)
	}
}

func TestP401DoorsAreTheirOwn(t *testing.T) {
	a, b, c := &Door{}, &Door{}, &Door{}
	if !a.Open(1) || !b.Open(2) || a.Open(5) {
		t.Error("each is opened once")
	}
	isOpen(t, "one", a, 1)
	isOpen(t, "another", b, 2)
	isShut(t, "a third", c)
}

func TestP401NilDoor(t *testing.T) {
	var d *Door
	for range 2 {
		if d.Open(1) || d.Open(0) {
			t.Error("a nil one is opened")
		}
		isShut(t, "a nil one", d)
	}
}

// Of many that open, one alone is told so, and it is the one that Who tells, to all and at once.
func TestP401ManyOpen(t *testing.T) {
	const doors = 20_000 // a row of them, along which the workers run side by side
	row := make([]Door, doors)
	var opened [workers][doors]bool
	all(func(k int) {
		for i := range row {
			opened[k][i] = row[i].Open(k + 1)
			if !row[i].Is() || row[i].Who() == 0 {
				t.Error("it is shut behind Open")
				return
			}
		}
	})
	for i := range row {
		n := 0
		for k := range workers {
			if opened[k][i] {
				n++
				isOpen(t, "the one that opened it", &row[i], k+1)
			}
		}
		if n != 1 {
			t.Fatalf("%d opened it", n)
		}
	}
}

// Who looks on sees a Door that is shut, and then one that is open to n, and nothing between.
func TestP401ManyLook(t *testing.T) {
	for range 200 {
		d := &Door{}
		all(func(k int) {
			if k == 0 {
				d.Open(7)
				return
			}
			for range 50 {
				if who := d.Who(); who != 0 {
					isOpen(t, "it was seen open", d, 7)
				}
				if d.Is() {
					isOpen(t, "it is open", d, 7)
				}
			}
		})
	}
}
