package ring

import (
	"math"
	"slices"
	"strings"
	"testing"
)

const greatest = 100_000

// holds tells whether a Ring has these bytes and so much room, whichever call is asked.
func holds(t *testing.T, what string, r *Ring, bytes string, room int) {
	t.Helper()
	if s, n, m := r.Peek(math.MaxInt), r.Len(), r.Room(); s != bytes || n != len(bytes) || m != room {
		t.Errorf("%s: has %q, Len %d, Room %d, not %q, %d, %d", what, s, n, m, bytes, len(bytes), room)
	}
}

// with makes a Ring that has bytes.
func with(room int, l ...string) *Ring {
	r := New(room)
	r.Put(l...)
	return r
}

func TestP201New(t *testing.T) {
	tests := []struct{ room, has int }{
		{0, 0}, {1, 1}, {200, 200}, {greatest - 1, greatest - 1}, {greatest, greatest},
		{-1, 0}, {math.MinInt, 0}, {greatest + 1, greatest}, {math.MaxInt, greatest},
	}
	for _, c := range tests {
		holds(t, "New", New(c.room), "", c.has)
	}
	full := strings.Repeat("a", greatest)
	r := New(math.MaxInt)
	if n := r.Put(full, "b"); n != greatest {
		t.Errorf("the greatest one took %d", n)
	}
	holds(t, "the greatest one", r, full, 0)
}

func TestP201Put(t *testing.T) {
	tests := []struct {
		what  string
		room  int
		put   []string
		n     int
		bytes string
	}{
		{"nothing", 3, nil, 0, ""},
		{"empty texts", 3, []string{"", ""}, 0, ""},
		{"less than the room", 3, []string{"ab"}, 2, "ab"},
		{"as much as the room", 3, []string{"ab", "", "c"}, 3, "abc"},
		{"one byte more", 3, []string{"abcd"}, 3, "abc"},
		{"a text that is cut", 3, []string{"ab", "cd"}, 3, "abc"},
		{"a shorter one behind one that is cut", 3, []string{"abcd", "e"}, 3, "abc"},
		{"one behind a full ring", 2, []string{"ab", "c", "d"}, 2, "ab"},
		{"no room at all", 0, []string{"a"}, 0, ""},
		{"any bytes", 9, []string{"\x00\xff", "ä", "\r\n"}, 6, "\x00\xffä\r\n"},
	}
	for _, c := range tests {
		r := New(c.room)
		if n := r.Put(c.put...); n != c.n {
			t.Errorf("%s: Put is %d, not %d", c.what, n, c.n)
		}
		holds(t, c.what, r, c.bytes, c.room-c.n)
	}
}

func TestP201PutTellsWhatItPut(t *testing.T) {
	r := with(5, "ab")
	if n, m, none := r.Put("c"), r.Put("def"), r.Put("g"); n != 1 || m != 2 || none != 0 {
		t.Errorf("Put is %d, %d, %d", n, m, none)
	}
	holds(t, "Put by Put", r, "abcde", 0)
}

func TestP201All(t *testing.T) {
	tests := []struct {
		what  string
		room  int
		put   []string
		ok    bool
		bytes string
	}{
		{"nothing", 3, nil, true, "a"},
		{"nothing into a full one", 1, nil, true, "a"},
		{"empty texts into a full one", 1, []string{"", ""}, true, "a"},
		{"less than the room", 4, []string{"b", "c"}, true, "abc"},
		{"as much as the room", 4, []string{"bc", "", "d"}, true, "abcd"},
		{"one byte more", 4, []string{"bcde"}, false, "a"},
		{"one byte more in all", 4, []string{"bc", "de"}, false, "a"},
		{"the last text alone fits", 4, []string{"bcdef", "g"}, false, "a"},
		{"no room at all", 1, []string{"b"}, false, "a"},
	}
	for _, c := range tests {
		r := with(c.room, "a")
		if ok := r.All(c.put...); ok != c.ok {
			t.Errorf("%s: All is %t", c.what, ok)
		}
		holds(t, c.what, r, c.bytes, c.room-len(c.bytes))
	}
	if !New(0).All() || !New(0).All("") || New(0).All("a") {
		t.Error("a ring with no room takes nothing, and nothing else")
	}
}

func TestP201TakeAndPeek(t *testing.T) {
	tests := []struct {
		n           int
		first, left string
	}{
		{math.MinInt, "", "abcd"}, {-1, "", "abcd"}, {0, "", "abcd"},
		{1, "a", "bcd"}, {3, "abc", "d"}, {4, "abcd", ""}, {5, "abcd", ""}, {math.MaxInt, "abcd", ""},
	}
	for _, c := range tests {
		r := with(6, "ab", "cd")
		if s := r.Peek(c.n); s != c.first {
			t.Errorf("Peek(%d) is %q", c.n, s)
		}
		holds(t, "Peek", r, "abcd", 2)
		if s := r.Take(c.n); s != c.first {
			t.Errorf("Take(%d) is %q", c.n, s)
		}
		holds(t, "Take", r, c.left, 6-len(c.left))
	}
	for _, n := range []int{-1, 0, 1, 9} {
		if r := New(3); r.Take(n) != "" || r.Peek(n) != "" {
			t.Errorf("%d bytes of none are some", n)
		}
	}
}

func TestP201Clear(t *testing.T) {
	r := with(5, "ab", "c")
	if n, m := r.Clear(), r.Clear(); n != 3 || m != 0 {
		t.Errorf("Clear is %d, then %d", n, m)
	}
	holds(t, "Clear", r, "", 5)
	if n := r.Put("xyz"); n != 3 || r.Take(2) != "xy" || r.Clear() != 1 {
		t.Errorf("Put behind a Clear is %d", n)
	}
	holds(t, "once more", r, "", 5)
}

func TestP201Example(t *testing.T) {
	r := New(3)
	if n, s, m, u := r.Put("ab", "cd"), r.Take(2), r.Put("xyz"), r.Take(9); n != 3 || s != "ab" || m != 2 || u != "cxy" {
		t.Errorf("%d %q %d %q", n, s, m, u)
	}
}

func TestP201AnswersAreTheirOwn(t *testing.T) {
	l := []string{"ab", "cd", "ef"}
	r := with(4, l...)
	whole, some := r.Peek(4), r.Take(2)
	for range 50 {
		r.Put("xyz")
		r.Take(3)
	}
	r.All(l...)
	if whole != "abcd" || some != "ab" || !slices.Equal(l, []string{"ab", "cd", "ef"}) {
		t.Errorf("%q %q %q", whole, some, l)
	}
	other := with(4, "q")
	r.Clear()
	holds(t, "another one", other, "q", 3)
}

// A zero Ring is as a nil one: no promise says that it is ready (DOC.md, rule 6).
func TestP201Nil(t *testing.T) {
	for _, r := range []*Ring{nil, {}} {
		for range 2 {
			if r.Put("a") != 0 || r.Put() != 0 || r.Clear() != 0 || r.Take(1) != "" {
				t.Error("a nil ring has bytes")
			}
			if r.All("a") || r.All("") || r.All() {
				t.Error("a nil ring takes all")
			}
			holds(t, "nil", r, "", 0)
		}
	}
}

// TestP201LongRun holds a Ring, call by call, against a text that is cut.
func TestP201LongRun(t *testing.T) {
	for _, room := range []int{1, 2, 7, 64} {
		r, model, seed := New(room), "", uint32(room)
		next := func(n int) int {
			seed = seed*1664525 + 1013904223
			return int(seed>>16) % n
		}
		text := func() string { return strings.Repeat(string(rune('a'+next(26))), next(room+1)) }
		for range 4000 {
			a, b, n := text(), text(), next(room+3)-1
			first := model[:min(max(n, 0), len(model))]
			switch next(5) {
			case 0:
				put := min(len(a)+len(b), room-len(model))
				model += (a + b)[:put]
				if got := r.Put(a, b); got != put {
					t.Fatalf("Put is %d, not %d", got, put)
				}
			case 1:
				ok := len(a)+len(b) <= room-len(model)
				if ok {
					model += a + b
				}
				if r.All(a, b) != ok {
					t.Fatalf("All is not %t", ok)
				}
			case 2, 3:
				model = model[len(first):]
				if got := r.Take(n); got != first {
					t.Fatalf("Take(%d) is %q, not %q", n, got, first)
				}
			case 4:
				if got := r.Peek(n); got != first {
					t.Fatalf("Peek(%d) is %q, not %q", n, got, first)
				}
			}
			holds(t, "a long run", r, model, room-len(model))
		}
	}
}
