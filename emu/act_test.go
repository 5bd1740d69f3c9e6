package emu

import (
	"math"
	"slices"
	"strings"
	"testing"

	"pontoon/api"
)

func TestP1703Controls(t *testing.T) {
	shows(t, 5, 3, map[string]string{
		"ab\bc":               "ac...|.....|..... 2,0",
		"ab\b\b\b\b":          "ab...|.....|..... 0,0",
		"ab\ra":               "ab...|.....|..... 1,0",
		"ab\n":                "ab...|.....|..... 2,1",
		"ab\v":                "ab...|.....|..... 2,1",
		"ab\f":                "ab...|.....|..... 2,1",
		"1\r\n2\r\n3\n":       "2....|3....|..... 1,2",
		"1\r\n2\r\n3\v":       "2....|3....|..... 1,2",
		"1\r\n2\r\n3\f":       "2....|3....|..... 1,2",
		"\t":                  ".....|.....|..... 4,0",
		"\x1b)0\x0eq\x0fq":    "─q...|.....|..... 2,0",
		"\x1b(0\x1b)A\x0e#q":  "£q...|.....|..... 2,0",
		"\x0e\x0e\x0f\x1b(0q": "─....|.....|..... 1,0",
		"\x1b[2;4H\b":         ".....|.....|..... 2,1",
		"\x1b[2;1H\b":         ".....|.....|..... 0,1",
		"\x1b[2;2H\t":         ".....|.....|..... 4,1",
		"\x1b[2;2H\r":         ".....|.....|..... 0,1",
	})
	shows(t, 20, 1, map[string]string{
		"\t":                         ".................... 8,0",
		"\t\t":                       ".................... 16,0",
		"\t\t\t\t":                   ".................... 19,0",
		"\x1b[9G\t":                  ".................... 16,0",
		"abc\t":                      "abc................. 8,0",
		"\x1b[4G\x1bH\r\t":           ".................... 3,0",
		"\x1b[20G\x1bH\t":            ".................... 19,0",
		"\x1b[3g\x1b[20G\x1bH\r\t\t": ".................... 19,0",
	})
}

func TestP1703ControlsThatDoNothing(t *testing.T) {
	for _, b := range append([]int{32, 127, 264, 269, 522, -8, -246, math.MinInt, math.MaxInt, 1 << 32}, 0, 1, 2, 3, 4, 5, 6, 7, 16, 17, 18, 19, 20, 21, 22, 23, 24, 25, 26, 27, 28, 29, 30, 31) {
		e := fed(5, 3, "\x1b)0ab\n")
		if s := e.Act(api.Act{Kind: api.Control, Byte: b}); s != "" || look(e) != "ab...|.....|..... 2,1" {
			t.Errorf("%d: %q, %s", b, s, look(e))
		}
		e.Feed("q")
		if l := look(e); l != "ab...|..q..|..... 3,1" {
			t.Errorf("%d: behind it %s", b, l)
		}
	}
}

func TestP1703Escapes(t *testing.T) {
	shows(t, 5, 3, map[string]string{
		"ab\x1bD":                 "ab...|.....|..... 2,1",
		"ab\x1bE":                 "ab...|.....|..... 0,1",
		"ab\n\x1bM":               "ab...|.....|..... 2,0",
		"ab\x1bM":                 ".....|ab...|..... 2,0",
		"1\r\n2\r\n3\x1bD":        "2....|3....|..... 1,2",
		"1\r\n2\r\n3\x1bE":        "2....|3....|..... 0,2",
		"ab\x1b7\x1b[3;4H\x1b8c":  "abc..|.....|..... 3,0",
		"ab\x1b[2;2H\x1b8":        "ab...|.....|..... 0,0", // nothing was saved
		"a\x1b7b\x1b7c\x1b8d":     "abd..|.....|..... 3,0", // what was saved last
		"a\x1b7bc\x1b8d\n\x1b8e":  "aec..|.....|..... 2,0", // and more than once
		"\x1b(0q\x1b(Bq\x1b(A#":   "─q£..|.....|..... 3,0",
		"\x1b)0q\x0eq\x1b)Bq":     "q─q..|.....|..... 3,0",
		"\x1b(0\x1b(Cq":           "─....|.....|..... 1,0", // it is none that is Known
		"\x1b(0\x1b*Bq":           "─....|.....|..... 1,0",
		"\x1b(0\x1b((Bq":          "─....|.....|..... 1,0",
		"\x1b(0\x1b)Bq":           "─....|.....|..... 1,0",
		"\x1b(0\x1b(1q\x1b(bq":    "──...|.....|..... 2,0",
		"ab\x1b(D\x1b)M\x1b#8":    "ab...|.....|..... 2,0",
		"abcde\x1b(7\x1b[H\x1b 8": "abcde|.....|..... 0,0",
	})
	shows(t, 20, 1, map[string]string{
		"\x1b[4G\x1bH\x1bH\r\t":          ".................... 3,0",
		"\x1b[4G\x1b(H\r\t":              ".................... 8,0",
		"\x1bH\t":                        ".................... 8,0",
		"\x1b[4G\x1bH\x1b[6G\x1bH\r\t\t": ".................... 5,0",
	})
}

// All that is saved comes back, and what is not saved stays.
func TestP1703Saved(t *testing.T) {
	for _, c := range [][2]string{{"\x1b7", "\x1b8"}, {"\x1b[s", "\x1b[u"}, {"\x1b7", "\x1b[u"}, {"\x1b[5s", "\x1b8"}, {"\x1b[?1049h", "\x1b[?1049l"}} {
		e := New(9, 4)
		e.Feed("\x1b[2;4r\x1b[?6h\x1b[2;3H\x1b[1;31;42m\x1b(0\x1b)A\x0e", c[0])
		e.Feed("\x1b[?6l\x1b[H\x1b[m\x1b(B\x1b)B\x0f\x1b[4h\x1b[?7l\x1b[?25l\x1b[1;3r\x1b[4G\x1bH", c[1])
		if s := e.Screen(); s.X != 2 || s.Y != 2 || !s.Hidden || region(e) != "0 3" || e.autowrap || !e.insert {
			t.Errorf("%q: %d, %d, %t, %s, %t, %t", c, s.X, s.Y, s.Hidden, region(e), e.autowrap, e.insert)
		}
		if l := stopsOf(e); !slices.Equal(l, []int{3}) {
			t.Errorf("%q: stops %v", c, l)
		}
		e.Feed("#\x0fq\x1b[9;1H")
		pen := api.Attr{Fg: 2, Bg: 3, Bold: true}
		if a, b := cellAt(e, 2, 2), cellAt(e, 3, 2); a != (api.Cell{Rune: 0xa3, Attr: pen}) || b != (api.Cell{Rune: 0x2500, Attr: pen}) {
			t.Errorf("%q: %v, %v", c, a, b)
		}
		if y := e.Screen().Y; y != 2 { // origin is on, and the region ends there
			t.Errorf("%q: the row %d", c, y)
		}
	}
}

func TestP1703SavedIsWithinTheScreen(t *testing.T) {
	e := fed(9, 4, "\x1b[4;9H\x1b7\x1b[H")
	e.Size(5, 2)
	e.Feed("\x1b8")
	if l := look(e); l != ".....|..... 4,1" {
		t.Errorf("%s", l)
	}
	e.Size(7, 3)
	e.Feed("\x1b[u")
	if l := look(e); l != ".......|.......|....... 6,2" {
		t.Errorf("what is saved stays: %s", l)
	}
}

func TestP1703AsNew(t *testing.T) {
	for _, s := range []string{
		"", "abcdef\n\n", "\x1b[31;42mx", "\x1b[2;3r", "\x1b[?6h", "\x1b[?7l", "\x1b[?25l", "\x1b[4h", "\x1b(0", "\x1b)0\x0e", "\x0e", "\x1b[3g", "\x1b[4G\x1bH",
		"\x1b[2;2H\x1b[1;31m\x1b[?6h\x1b(0\x1b)A\x0e\x1b7", "abc\x1b[?1049hdef", strings.Repeat("x", 20), "\x1b[?1049h\x1b[2;3r\x1b[3;3H",
	} {
		e := fed(20, 4, s)
		if r := e.Feed("\x1bc"); r != "" {
			t.Errorf("%q: it replies %q", s, r)
		}
		isNew(t, s, e, 20, 4)
	}
	e := fed(20, 4, "abc")
	e.Size(10, 2)
	e.Feed("\x1bc")
	isNew(t, "of another size", e, 10, 2)
	e.Size(20, 3)
	isNew(t, "sized again", e, 20, 3)
}

func TestP1703EscapesThatDoNothing(t *testing.T) {
	for _, inter := range []string{"", "(", ")", "*", " ", "#", "((", "()", "(B", "\x00"} {
		for b := -300; b < 700; b++ {
			if inter == "" && b > 0 && b < 128 && strings.ContainsRune("78DEMHc", rune(b)) {
				continue
			}
			e := fed(20, 3, "\x1b[2;2H\x1b7ab\x1b[3;9H")
			s := e.Act(api.Act{Kind: api.Escape, Inter: inter, Byte: b, Nums: []int{1, 2}, Mark: '?'})
			if s != "" || look(e) != "....................|.ab.................|.................... 8,2" {
				t.Fatalf("%q, %d: %q, %s", inter, b, s, look(e))
			}
			if b == 'A' || b == 'B' || b == '0' {
				continue
			}
			if e.Feed("q#\x0eq#\x1b[H\t"); look(e) != "....................|.ab.................|........q#q#........ 8,0" {
				t.Errorf("%q, %d: behind it %s", inter, b, look(e))
			}
		}
	}
}

// Kinds that are none, and those that are for nobody here.
func TestP1703OtherKinds(t *testing.T) {
	for _, k := range []int{math.MinInt, -1, 0, api.Osc, api.Dcs, 7, 8, 1 << 32, 1<<32 + 1, math.MaxInt} {
		e := fed(5, 2, "ab")
		if s := e.Act(api.Act{Kind: k, Rune: 'c', Byte: 'c', Nums: []int{5}, Text: "text"}, api.Act{Kind: k, Byte: 'n', Nums: []int{5}}); s != "" || look(e) != "ab...|..... 2,0" {
			t.Errorf("%d: %q, %s", k, s, look(e))
		}
	}
	e := fed(5, 2, "ab\x1b]0;text\x07\x1bPtext\x1b\\c")
	if l := look(e); l != "abc..|..... 3,0" {
		t.Errorf("%s", l)
	}
}

// isLate tells whether the next Print of a terminal, 3 wide at least, goes to the next row as soon as autowrap is on.
func isLate(e *Emu) bool {
	c := e.Copy()
	was := c.Screen().X
	c.Feed("\x1b[?7hx")
	return was == c.Screen().W-1 && c.Screen().X == 1
}

// What ends it, and what does not, at the end of a row in the midst of the region.
func TestP1702LateEnds(t *testing.T) {
	at := func() *Emu { return fed(5, 5, "\x1b[2;4r\x1b[3;1Habcde") }
	if !isLate(at()) {
		t.Fatal("it is not late at all")
	}
	check := func(a api.Act, ends bool) {
		t.Helper()
		e := at()
		e.Act(a)
		if isLate(e) == ends || e.late == ends {
			t.Errorf("%+v: late is %t", a, e.late)
		}
	}
	for b := range 32 {
		check(api.Act{Kind: api.Control, Byte: b}, b >= 8 && b <= 13)
	}
	for b := 32; b < 127; b++ {
		name := string(rune(b))
		check(api.Act{Kind: api.Escape, Byte: b}, strings.Contains("8DEMc", name))
		check(api.Act{Kind: api.Escape, Inter: "(", Byte: b}, false)
		check(api.Act{Kind: api.Escape, Inter: "#", Byte: b}, false)
		for _, nums := range [][]int{nil, {-1}, {0}, {1}, {2}, {9999}, {1, 1}, {2, 3}} {
			check(api.Act{Kind: api.Csi, Nums: nums, Byte: b}, strings.Contains("ABCDEFGHdfX@PSTuLM", name) ||
				strings.Contains("JK", name) && (len(nums) == 0 || nums[0] <= 2) ||
				name == "r" && !slices.Equal(nums, []int{9999}) && !slices.Equal(nums, []int{1, 1}))
			for _, mark := range "<=>?" {
				check(api.Act{Kind: api.Csi, Mark: int(mark), Nums: nums, Byte: b}, false)
			}
			check(api.Act{Kind: api.Csi, Inter: " ", Nums: nums, Byte: b}, false)
		}
	}
	for n := -1; n < 1100; n++ {
		for _, b := range "hl" {
			check(api.Act{Kind: api.Csi, Mark: '?', Nums: []int{n}, Byte: int(b)}, n == 6 || n == 1049 && b == 'h')
			check(api.Act{Kind: api.Csi, Mark: '?', Nums: []int{25, n}, Byte: int(b)}, n == 6 || n == 1049 && b == 'h')
			check(api.Act{Kind: api.Csi, Nums: []int{n}, Byte: int(b)}, false)
		}
	}
	check(api.Act{Kind: api.Csi, Nums: []int{3}, Byte: 'J'}, false)
	check(api.Act{Kind: api.Csi, Nums: []int{3}, Byte: 'K'}, false)
}

// Where L, M, r and 1049 do nothing, it stays late.
func TestP1702LateStays(t *testing.T) {
	for _, c := range []struct {
		begin, act string
		late       bool
	}{
		{"\x1b[2;4r\x1b[1;1Habcde", "\x1b[L", true},
		{"\x1b[2;4r\x1b[1;1Habcde", "\x1b[M", true},
		{"\x1b[2;4r\x1b[5;1Habcde", "\x1b[L", true},
		{"\x1b[2;4r\x1b[5;1Habcde", "\x1b[M", true},
		{"\x1b[2;4r\x1b[4;1Habcde", "\x1b[L", false},
		{"\x1b[2;4r\x1b[2;1Habcde", "\x1b[M", false},
		{"abcde", "\x1b[2;2r", true},
		{"abcde", "\x1b[5r", true},
		{"abcde", "\x1b[4r", false},
		{"abcde", "\x1b[?1049l", true},
		{"abcde", "\x1b[?1049h", false},
		{"\x1b[?1049habcde", "\x1b[?1049h", true},
		{"\x1b[?1049habcde", "\x1b[?1049l", false},
		{"abcde", "\x1b[?7l\x1b[?7h", true},
		{"abcde\x1b[?7l", "f\x1b[?7h", false},
		{"\x1b[?7labcde", "\x1b[?7h", false},
		{"abcde", "\x1b7", true},
		{"abcde\x1b7", "\x1b8", false}, // it is not saved
		{"abcde\x1b[s", "\x1b[u", false},
		{"abcd", "\x1b[4he", true},
		{"abcd\x1b[C", "", false}, // no rune was set there
		{"abcde", "\x1b[31m\x1b[4h\x1b[5n\x1b[6n\x1b[c\x1b[g\x1bH\x1b(0\x1b)0\x0e\x0f\x1b[?25l\x1b[s\x1b7\x00\x07\x1b]t\x07", true},
		{"abcdefghij", "", true},
	} {
		e := fed(5, 5, c.begin)
		e.Feed(c.act)
		if isLate(e) != c.late {
			t.Errorf("%q, %q: late is %t", c.begin, c.act, !c.late)
		}
	}
	for _, size := range [][2]int{{5, 5}, {5, 4}, {6, 5}, {4, 5}, {3, 0}} {
		e := fed(5, 5, "abcde")
		if e.Size(size[0], size[1]); isLate(e) {
			t.Errorf("%v: it is late", size)
		}
	}
}
