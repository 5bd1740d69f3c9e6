package emu

import (
	"fmt"
	"math"
	"slices"
	"strings"
	"testing"

	"pontoon/api"
)

// onScreen tells whether a terminal's cursor, its region, and its cells fit its size.
func onScreen(t *testing.T, what any, e *Emu) {
	t.Helper()
	s := e.Screen()
	top, bottom := e.Region()
	if s.W < api.MinW || s.W > api.MaxW || s.H < api.MinH || s.H > api.MaxH || len(s.Cells) != s.W*s.H || len(e.Text()) != s.H {
		t.Fatalf("%q: %d, %d, with %d cells", what, s.W, s.H, len(s.Cells))
	}
	if s.X < 0 || s.X >= s.W || s.Y < 0 || s.Y >= s.H {
		t.Fatalf("%q: the cursor is at %d, %d", what, s.X, s.Y)
	}
	if top < 0 || bottom > s.H || top >= bottom || top == bottom-1 && s.H > 1 {
		t.Fatalf("%q: the region is %d, %d", what, top, bottom)
	}
}

func TestP1705Size(t *testing.T) {
	for size, want := range map[[2]int]string{
		{6, 5}: "abcdef|ghijkl|mnopqr|stuvwx|ABCDEF 3,2",
		{8, 6}: "abcdef..|ghijkl..|mnopqr..|stuvwx..|ABCDEF..|........ 3,2",
		{3, 2}: "abc|ghi 2,1",
		{4, 3}: "abcd|ghij|mnop 3,2",
		{2, 1}: "ab 1,0",
		{7, 1}: "abcdef. 3,0",
		{2, 6}: "ab|gh|mn|st|AB|.. 1,2",
	} {
		e := fed(6, 5, five)
		e.Size(size[0], size[1])
		if got := look(e); got != want {
			t.Errorf("%v: %s, not %s", size, got, want)
		}
	}
}

func TestP1705SizeBeyondTheEnds(t *testing.T) {
	for _, w := range far {
		for _, h := range far {
			e := fed(6, 5, five)
			e.Size(w, h)
			s := e.Screen()
			if s.W != end(w, 2, 40) || s.H != end(h, 1, 20) || region(e) != fmt.Sprint(0, s.H) {
				t.Errorf("%d, %d: %d, %d, %s", w, h, s.W, s.H, region(e))
			}
			onScreen(t, []int{w, h}, e)
		}
	}
}

// What Size sets anew, and what it leaves.
func TestP1705SizeSets(t *testing.T) {
	for _, size := range [][2]int{{20, 5}, {30, 5}, {20, 8}, {12, 3}} {
		e := fed(20, 5, "\x1b[2;3H\x1b[1;31m\x1b(0\x1b7\x1b[2;4r\x1b[?6h\x1b[4h\x1b[?7l\x1b[?25l\x1b[3g\x1b[5G\x1bH\x1b)A\x0e")
		e.Size(size[0], size[1])
		if region(e) != fmt.Sprint(0, size[1]) {
			t.Errorf("%v: the region is %s", size, region(e))
		}
		var eights []int
		for x := 8; x < size[0]-1; x += 8 {
			eights = append(eights, x)
		}
		if l := stopsOf(e); !slices.Equal(l, eights) {
			t.Errorf("%v: stops %v", size, l)
		}
		if s := e.Screen(); s.X != 4 || s.Y != 1 || !s.Hidden || e.autowrap || !e.insert || !e.origin {
			t.Errorf("%v: %d, %d, %t, %t, %t, %t", size, s.X, s.Y, s.Hidden, e.autowrap, e.insert, e.origin)
		}
		e.Feed("#")
		if c := cellAt(e, 4, 1); c != (api.Cell{Rune: 0xa3, Attr: api.Attr{Fg: 2, Bold: true}}) {
			t.Errorf("%v: the pen, the set: %v", size, c)
		}
		e.Feed("\x1b[m\x1b8q")
		if c := cellAt(e, 2, 1); c != (api.Cell{Rune: 0x2500, Attr: api.Attr{Fg: 2, Bold: true}}) {
			t.Errorf("%v: what is saved: %v", size, c)
		}
		if s := e.Screen(); s.X != 3 || s.Y != 1 {
			t.Errorf("%v: the cursor that was saved: %d, %d", size, s.X, s.Y)
		}
	}
}

func TestP1705SizeOfBothScreens(t *testing.T) {
	e := fed(6, 3, "abcdef\r\nghijkl\r\nmnopqr\x1b[?1049h\x1b[Hstuvwx\r\nABCDEF")
	e.Size(4, 4)
	if l := look(e); l != "stuv|ABCD|....|.... 3,1" || !e.Alt() {
		t.Errorf("the other one: %s", l)
	}
	e.Feed("\x1b[?1049l")
	if l := look(e); l != "abcd|ghij|mnop|.... 3,2" {
		t.Errorf("the main one: %s", l)
	}
	e.Size(6, 2)
	e.Feed("\x1b[?1049h")
	if s := e.Screen(); s.W != 6 || s.H != 2 || look(e) != "......|...... 3,1" {
		t.Errorf("the other one, anew: %s", look(e))
	}
}

func TestP1705Screen(t *testing.T) {
	e := fed(3, 2, "a\x1b[31mb\x1b[?25l\x1b[2;3H")
	s := e.Screen()
	want := []api.Cell{{Rune: 'a'}, {Rune: 'b', Attr: api.Attr{Fg: 2}}, {Rune: 32}, {Rune: 32}, {Rune: 32}, {Rune: 32}}
	if s.W != 3 || s.H != 2 || s.X != 2 || s.Y != 1 || !s.Hidden || !slices.Equal(s.Cells, want) {
		t.Errorf("%+v", s)
	}
	s.Cells[0] = api.Cell{}
	_ = append(s.Cells[:1], api.Cell{})
	if got := e.Screen(); !slices.Equal(got.Cells, want) {
		t.Errorf("what was told changed: %v", got.Cells)
	}
	s = e.Screen()
	e.Feed("\x1b[H\x1b[2Jx")
	if !slices.Equal(s.Cells, want) {
		t.Errorf("what was told is %v", s.Cells)
	}
}

func TestP1705Text(t *testing.T) {
	e := fed(3, 2, "a€\r\n\xffb")
	want := []string{"a€ ", "\ufffdb "}
	l := e.Text()
	if !slices.Equal(l, want) {
		t.Errorf("%q", l)
	}
	l[0] = "another"
	if l = e.Text(); !slices.Equal(l, want) {
		t.Errorf("what was told changed: %q", l)
	}
}

// Whatever is done to one, the other one stays, and goes on from where both were.
func TestP1705Copy(t *testing.T) {
	texts := []string{"", "abc", "abcde", "\x1b[2;3r\x1b[?6h", "\x1b[31m\x1b(0\x1b7\x1b[m", "\x1b[?1049hx", "\x1b[?7l\x1b[4h\x1b[?25l", "\x1b[3g\x1b[3G\x1bH", "\x1b[", "\x1b[3", "\xe2\x82", "\x1b]te", "\x1b("}
	on := []string{"", "2Jx", "\xacx", ";2Hy", "\x07z", "0q", "\x1bc", "\x1b8q", "\tx", "\x1b[?1049lq", "\x1b[?1049h\x1b[41m\x1b[2J", "\n\n\nabcdefgh"}
	for _, s := range texts {
		for _, a := range on {
			for _, b := range on {
				e := fed(5, 3, "q\r\n", s)
				c := e.Copy()
				first, second := e.Feed(a), c.Feed(b)
				if a == "" {
					e.Size(9, 2)
				}
				is(t, []string{s, a}, e, first, a == "", s, a)
				is(t, []string{s, b}, c, second, false, s, b)
			}
		}
	}
}

// is tells whether a terminal is as one that was fed the same by itself.
func is(t *testing.T, what any, e *Emu, replies string, sized bool, s, more string) {
	t.Helper()
	other := fed(5, 3, "q\r\n", s)
	want := other.Feed(more)
	if sized {
		other.Size(9, 2)
	}
	if replies != want || look(e) != look(other) || !slices.Equal(e.Screen().Cells, other.Screen().Cells) || e.Screen().Hidden != other.Screen().Hidden || e.Alt() != other.Alt() || region(e) != region(other) || !slices.Equal(stopsOf(e), stopsOf(other)) {
		t.Errorf("%q: %q, %s, not %q, %s", what, replies, look(e), want, look(other))
	}
}

// saysNothing holds one that New did not make to zero values, whatever is asked of it.
func saysNothing(t *testing.T, what string, e *Emu) {
	t.Helper()
	for range 2 {
		top, bottom := e.Region()
		s := e.Screen()
		if r := e.Feed("ab\x1b[5n", "\x1b[c") + e.Act(api.Act{Kind: api.Csi, Byte: 'n', Nums: []int{5}}, api.Act{Kind: api.Escape, Byte: 'c'}); r != "" {
			t.Errorf("%s: it replies %q", what, r)
		}
		if s.W != 0 || s.H != 0 || s.Cells != nil || s.X != 0 || s.Y != 0 || s.Hidden || len(e.Text()) != 0 || e.Alt() || top != 0 || bottom != 0 || e.Copy() != nil {
			t.Errorf("%s: %+v, %q, %t, %d, %d, %v", what, s, e.Text(), e.Alt(), top, bottom, e.Copy())
		}
		e.Size(5, 3)
		e.Size(math.MaxInt, math.MinInt)
	}
}

func TestP1705NilAndZero(t *testing.T) {
	saysNothing(t, "nil", nil)
	saysNothing(t, "zero", &Emu{})
}

// However bytes are cut, the screen and the replies are the same.
func TestP1706Cut(t *testing.T) {
	const s = "a€b\x1b[2;2Hc\x1b]t\x07d\x1b[6n\x1b(0q\xf0\x9f\x98\x80\xe2\x82\x1b[31;1m\x1bPtext\x1b\\x\x1b[?1049he\x1b[5nabcdefgh\x1b[6n\x1b[c\x1b7\x1bc\x1b[2;3rx\x1b[6n\xff"
	whole := New(5, 3)
	want := whole.Feed(s)
	for i := range len(s) + 1 {
		for j := i; j <= len(s); j++ {
			one, other := New(5, 3), New(5, 3)
			got := one.Feed(s[:i], s[i:j], s[j:])
			by := other.Feed(s[:i]) + other.Feed(s[i:j]) + other.Feed(s[j:])
			for _, e := range []*Emu{one, other} {
				if look(e) != look(whole) || !slices.Equal(e.Screen().Cells, whole.Screen().Cells) {
					t.Fatalf("%d, %d: %s, not %s", i, j, look(e), look(whole))
				}
			}
			if got != want || by != want {
				t.Fatalf("%d, %d: %q, %q, not %q", i, j, got, by, want)
			}
		}
	}
}

// Whatever comes, even what is no text at all, the cursor is on the screen.
func TestP1706OnTheScreen(t *testing.T) {
	for seed := range 300 {
		next := randoms(seed)
		e := New(next(45), next(25))
		for range 60 {
			var b strings.Builder
			for range next(20) {
				b.WriteByte(byte(next(256)))
			}
			b.WriteString(word(next))
			e.Feed(b.String())
			onScreen(t, b.String(), e)
			if next(20) == 0 {
				e.Size(next(45), next(25))
				onScreen(t, "Size", e)
			}
		}
	}
}
