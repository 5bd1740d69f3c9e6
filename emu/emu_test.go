package emu

import (
	"fmt"
	"math"
	"slices"
	"strings"
	"testing"

	"pontoon/api"
)

// far are ends and places beyond all that there are.
var far = []int{math.MinInt, math.MinInt + 1, -1 << 32, -1000, -1, 0, 1, 2, 3, 39, 40, 41, 1000, 1 << 32, math.MaxInt - 1, math.MaxInt}

// fed is a terminal that was fed texts.
func fed(w, h int, l ...string) *Emu {
	e := New(w, h)
	e.Feed(l...)
	return e
}

// look tells rows, with dots for empty places, and the cursor.
func look(e *Emu) string {
	s := e.Screen()
	return strings.ReplaceAll(strings.Join(e.Text(), "|"), " ", ".") + fmt.Sprintf(" %d,%d", s.X, s.Y)
}

// shows tells whether a terminal, w wide and h high, looks so when it was fed each text.
func shows(t *testing.T, w, h int, want map[string]string) {
	t.Helper()
	for s, l := range want {
		if got := look(fed(w, h, s)); got != l {
			t.Errorf("%q: %s, not %s", s, got, l)
		}
	}
}

func cellAt(e *Emu, x, y int) api.Cell {
	s := e.Screen()
	return s.Cells[y*s.W+x]
}

func region(e *Emu) string {
	top, bottom := e.Region()
	return fmt.Sprint(top, bottom)
}

// stopsOf tells where a terminal's tab stops are, from column 0 on.
func stopsOf(e *Emu) []int {
	c := e.Copy()
	c.Feed("\r")
	var l []int
	for {
		was := c.Screen().X
		c.Feed("\t")
		x := c.Screen().X
		if x == was || x == c.Screen().W-1 { // the last column needs no stop
			return l
		}
		l = append(l, x)
	}
}

// isNew tells whether a terminal answers all as one that New makes, and goes on so.
func isNew(t *testing.T, what any, e *Emu, w, h int) {
	t.Helper()
	s := e.Screen()
	if s.W != w || s.H != h || len(s.Cells) != w*h || s.X != 0 || s.Y != 0 || s.Hidden {
		t.Fatalf("%v: %+v", what, s)
	}
	for i, c := range s.Cells {
		if c != (api.Cell{Rune: 32}) {
			t.Fatalf("%v: at %d %v", what, i, c)
		}
	}
	if e.Alt() || region(e) != fmt.Sprint(0, h) || e.late {
		t.Errorf("%v: other screen %t, region %s, late %t", what, e.Alt(), region(e), e.late)
	}
	var eights []int
	for x := 8; x < w-1; x += 8 {
		eights = append(eights, x)
	}
	if l := stopsOf(e); !slices.Equal(l, eights) {
		t.Errorf("%v: stops %v", what, l)
	}
	for _, s := range []string{"q\x0eq", "\x1b8\x0eq", strings.Repeat("x", w+1), "ab\ra", "\x1b[2;3r\x1b[H", "\x1b[2;2H\x1b[1;31m\x1b[?6h\x1b(0\x1b)0\x0e\x1b8qq\x0eq\x1b[H", "\x1b[2;2H\x1b[?1049h"} {
		one, other := e.Copy(), New(w, h)
		one.Feed(s)
		other.Feed(s)
		if look(one) != look(other) || !slices.Equal(one.Screen().Cells, other.Screen().Cells) {
			t.Errorf("%v, %q: %s, not %s", what, s, look(one), look(other))
		}
	}
}

func TestP1701New(t *testing.T) {
	for _, w := range far {
		for _, h := range far {
			isNew(t, []int{w, h}, New(w, h), end(w, 2, 40), end(h, 1, 20))
		}
	}
	for w := 2; w <= 40; w++ {
		isNew(t, w, New(w, 3), w, 3)
	}
}

// What New's own words say, each for itself.
func TestP1701NewSays(t *testing.T) {
	shows(t, 10, 3, map[string]string{
		"":                            "..........|..........|.......... 0,0",
		"abcdefghijk":                 "abcdefghij|k.........|.......... 1,1", // autowrap is on
		"ab\rc":                       "cb........|..........|.......... 1,0", // insert is off
		"q\x0eq":                      "qq........|..........|.......... 2,0", // both sets are B
		"\x1b)0q\x0eq":                "q─........|..........|.......... 2,0", // G0 is in use
		"\ta":                         "........a.|..........|.......... 9,0", // there is a stop at 8
		"\x1b[2;3r\x1b[1;1Ha":         "a.........|..........|.......... 1,0", // origin is off
		"ab\n\x1b8c":                  "cb........|..........|.......... 1,0", // nothing is saved
		"\x1b(0\x1b)0\x0e\x1b8q\x0eq": "qq........|..........|.......... 2,0",
		"1\r\n2\r\n3\r\n4":            "2.........|3.........|4......... 1,2", // the region is all rows
	})
	e := fed(10, 3, "\x1b[31m\x1b8a")
	if c := cellAt(e, 0, 0); c != (api.Cell{Rune: 'a'}) {
		t.Errorf("of a zero pen: %v", c)
	}
	e = fed(10, 3, "\x1b[2;3r\x1b[?6h\x1b8\x1b[1;1H")
	if l := look(e); !strings.HasSuffix(l, " 0,0") {
		t.Errorf("origin, that was saved off: %s", l)
	}
	if e.Screen().Hidden {
		t.Errorf("the cursor is hidden")
	}
}

func TestP1701NewIsNewEachTime(t *testing.T) {
	e, other := New(20, 3), New(20, 3)
	e.Feed("\x1b[1;41mabc\x1b[2;3r\x1b[?6;25l\x1b[?7l\x1b[4h\x1b(0\x1b7\x1b[3g\x1b[?1049h")
	isNew(t, "another one", other, 20, 3)
	isNew(t, "one more", New(20, 3), 20, 3)
}

func TestP1701Example(t *testing.T) {
	e := New(4, 2)
	if s := e.Feed("abcde\x1b[6n"); s != "\x1b[2;2R" {
		t.Errorf("it replies %q", s)
	}
	if l := e.Text(); !slices.Equal(l, []string{"abcd", "e   "}) {
		t.Errorf("%q", l)
	}
}

func TestP1701FeedOfMany(t *testing.T) {
	e := New(9, 2)
	if s := e.Feed(); s != "" || look(e) != ".........|......... 0,0" {
		t.Errorf("nothing: %q, %s", s, look(e))
	}
	if s := e.Feed("", "a\x1b[5n", "", "b\x1b[", "6", "n\x1b[c", "c"); s != "\x1b[0n\x1b[1;3R\x1b[?1;2c" || look(e) != "abc......|......... 3,0" {
		t.Errorf("%q, %s", s, look(e))
	}
	if s := e.Feed("\x1b[") + e.Feed("5") + e.Feed("n\xe2\x82"); s != "\x1b[0n" || look(e) != "abc......|......... 3,0" {
		t.Errorf("by parts: %q, %s", s, look(e))
	}
	if s := e.Feed("\xac"); s != "" || look(e) != "abc€.....|......... 4,0" {
		t.Errorf("half a rune: %q, %s", s, look(e))
	}
}

func TestP1701ActOfMany(t *testing.T) {
	e := New(9, 2)
	five := api.Act{Kind: api.Csi, Byte: 'n', Nums: []int{5}}
	six := api.Act{Kind: api.Csi, Byte: 'n', Nums: []int{6}}
	a := api.Act{Kind: api.Print, Rune: 'a'}
	if s := e.Act(); s != "" {
		t.Errorf("nothing: %q", s)
	}
	if s := e.Act(six, a, five, a, a, six); s != "\x1b[1;1R\x1b[0n\x1b[1;4R" || look(e) != "aaa......|......... 3,0" {
		t.Errorf("%q, %s", s, look(e))
	}
}

// An act by itself stands beside what Feed has half read: neither touches the other.
func TestP1701ActBesideFeed(t *testing.T) {
	e := New(9, 2)
	e.Feed("a\x1b[2")
	e.Act(api.Act{Kind: api.Print, Rune: 'b'})
	e.Feed(";3Hc")
	if l := look(e); l != "ab.......|..c...... 3,1" {
		t.Errorf("%s", l)
	}
	e.Feed("\x1b[2")
	e.Act(api.Act{Kind: api.Escape, Byte: 'c'})
	e.Feed(";3Hc")
	if l := look(e); l != ".........|..c...... 3,1" {
		t.Errorf("all is as new between: %s", l)
	}
}

func TestP1701NothingIsWrittenOrKept(t *testing.T) {
	nums := []int{-1, 0, 9999, 4}
	acts := []api.Act{{Kind: api.Csi, Byte: 'm', Nums: nums}, {Kind: api.Csi, Byte: 'H', Nums: nums}, {Kind: api.Csi, Byte: 'h', Nums: nums}, {Kind: api.Csi, Byte: 'J', Nums: nums}}
	e := New(9, 2)
	e.Act(acts...)
	if !slices.Equal(nums, []int{-1, 0, 9999, 4}) {
		t.Errorf("they are %v", nums)
	}
	was := look(e)
	clear(nums)
	clear(acts)
	if look(e) != was {
		t.Errorf("%s", look(e))
	}
}

// Many replies of one call come all, and in their order.
func TestP1701ManyReplies(t *testing.T) {
	e := New(40, 20)
	var sent, want strings.Builder
	for i := range 20_000 {
		fmt.Fprintf(&sent, "\x1b[%d;%dH\x1b[6n", i%20+1, i%40+1)
		fmt.Fprintf(&want, "\x1b[%d;%dR", i%20+1, i%40+1)
	}
	if got := e.Feed(sent.String()); got != want.String() {
		t.Errorf("%d bytes, not %d", len(got), want.Len())
	}
}

func TestP1702Print(t *testing.T) {
	shows(t, 5, 3, map[string]string{
		"abc":                     "abc..|.....|..... 3,0",
		"abcde":                   "abcde|.....|..... 4,0",
		"abcdef":                  "abcde|f....|..... 1,1",
		"abcdefghijklmno":         "abcde|fghij|klmno 4,2",
		"abcdefghijklmnop":        "fghij|klmno|p.... 1,2",
		"a€b":                     "a€b..|.....|..... 3,0",
		"\x1b[3;4Habcd":           ".....|...ab|cd... 2,2",
		"\x1b[?7labcdefg":         "abcdg|.....|..... 4,0",
		"\x1b[?7labcde\x1b[?7hf":  "abcdf|.....|..... 4,0", // what was set with autowrap off is not late
		"abcde\x1b[?7l\x1b[?7hf":  "abcde|f....|..... 1,1",
		"abcde\x1b[?7lf\x1b[?7hg": "abcdg|.....|..... 4,0",
	})
	e := New(5, 3)
	for i, want := range []string{"1,0", "2,0", "3,0", "4,0", "4,0", "1,1", "2,1"} {
		e.Feed("x")
		if l := look(e); !strings.HasSuffix(l, want) {
			t.Errorf("behind %d: %s", i+1, l)
		}
	}
}

func TestP1702Pen(t *testing.T) {
	e := fed(3, 2, "a\x1b[1;4;7;31;102mb\x1b[44mc\x1b[md")
	all := api.Attr{Fg: 2, Bg: 11, Bold: true, Under: true, Inverse: true}
	blue := all
	blue.Bg = 5
	for i, want := range []api.Cell{{Rune: 'a'}, {Rune: 'b', Attr: all}, {Rune: 'c', Attr: blue}, {Rune: 'd'}, {Rune: ' '}} {
		if c := cellAt(e, i%3, i/3); c != want {
			t.Errorf("%d: %v, not %v", i, c, want)
		}
	}
}

func TestP1702Insert(t *testing.T) {
	shows(t, 5, 2, map[string]string{
		"abc\r\x1b[4hxy":            "xyabc|..... 2,0",
		"abcde\r\x1b[4hxy":          "xyabc|..... 2,0", // what goes beyond the row goes
		"abcde\x1b[4hx":             "abcde|x.... 1,1",
		"abcde\b\x1b[C\x1b[4hxy":    "abcdx|y.... 1,1",
		"abcde\r\x1b[4hx\x1b[4ly":   "xybcd|..... 2,0",
		"abc\r\x1b[4;4l\x1b[20;4hx": "xabc.|..... 1,0",
	})
	e := fed(5, 2, "abc\r\x1b[4h\x1b[41mx")
	for x, want := range []api.Cell{{Rune: 'x', Attr: api.Attr{Bg: 2}}, {Rune: 'a'}, {Rune: 'b'}, {Rune: 'c'}, {Rune: 32}} {
		if c := cellAt(e, x, 0); c != want {
			t.Errorf("%d: %v, not %v", x, c, want)
		}
	}
}

func TestP1702Sets(t *testing.T) {
	shows(t, 9, 1, map[string]string{
		"\x1b(0`qx~_\x7fA": "◆─│·.A... 6,0",
		"\x1b(A#q$":        "£q$...... 3,0",
		"\x1b(B#q":         "#q....... 2,0",
		"\x1b(0é\xff─":     "é\ufffd─...... 3,0", // from 128 on a set says nothing
	})
	e := New(9, 1)
	e.Feed("\x1b(0\x1b)A\x0e")
	for i, r := range []rune{0, 31, 35, 127, 128, 0x23 + 256, 0xd800, 0x10ffff} {
		e.Act(api.Act{Kind: api.Print, Rune: r})
		want := r
		if r == 35 {
			want = 0xa3
		}
		if c := cellAt(e, i, 0); c.Rune != want {
			t.Errorf("%x: %x", r, c.Rune)
		}
	}
}

func TestP1702Index(t *testing.T) {
	const four = "1\r\n2\r\n3\r\n4"
	shows(t, 3, 4, map[string]string{
		four + "\x1bD":                   "2..|3..|4..|... 1,3",
		four + "\x1b[1;2H\x1bD":          "1..|2..|3..|4.. 1,1",
		four + "\x1b[2;3r\x1b[3;2H\x1bD": "1..|3..|...|4.. 1,2",
		four + "\x1b[2;3r\x1b[4;2H\x1bD": "1..|2..|3..|4.. 1,3", // below the region the last row stays
		four + "\x1b[1;2r\x1b[3;2H\x1bD": "1..|2..|3..|4.. 1,3",
		four + "\x1b[3;4r\x1b[2;2H\x1bD": "1..|2..|3..|4.. 1,2",
		four + "\x1b[2;3r\x1b[3;3Hxy":    "1..|3.x|y..|4.. 1,2", // a Print that wraps moves the region
		four + "\x1b[2;3r\x1b[4;3Hxy":    "1..|2..|3..|y.x 1,3",
	})
}

func TestP1702ReverseIndex(t *testing.T) {
	const four = "1\r\n2\r\n3\r\n4"
	shows(t, 3, 4, map[string]string{
		four + "\x1bM":                        "1..|2..|3..|4.. 1,2",
		four + "\x1b[1;2H\x1bM":               "...|1..|2..|3.. 1,0",
		four + "\x1b[2;3r\x1b[2;2H\x1bM":      "1..|...|2..|4.. 1,1",
		four + "\x1b[2;3r\x1b[1;2H\x1bM":      "1..|2..|3..|4.. 1,0", // above the region row 0 stays
		four + "\x1b[3;4r\x1b[2;2H\x1bM":      "1..|2..|3..|4.. 1,0",
		four + "\x1b[2;3r\x1b[4;2H\x1bM":      "1..|2..|3..|4.. 1,2",
		four + "\x1b[1;2r\x1b[3;2H\x1bM\x1bM": "1..|2..|3..|4.. 1,0",
	})
}

// What comes in is blank: the pen's Bg, and nothing else of it.
func TestP1702IndexBringsInBlanks(t *testing.T) {
	for s, y := range map[string]int{
		"\x1b[1;4;31;42m\x1b[3;1H\n":         2,
		"\x1b[1;7;31;42m\x1bM":               0,
		"\x1b[1;31;42m\x1b[3;2Hab\x1bM":      2, // a Print that wraps
		"\x1b[31;42m\x1b[2;3r\x1b[3;1H\n":    2,
		"\x1b[31;42m\x1b[2;3r\x1b[2;1H\x1bM": 1,
	} {
		e := fed(2, 3, s)
		if c := cellAt(e, 1, y); c != (api.Cell{Rune: 32, Attr: api.Attr{Bg: 3}}) {
			t.Errorf("%q: %v", s, c)
		}
	}
}
