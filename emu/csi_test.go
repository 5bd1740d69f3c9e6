package emu

import (
	"fmt"
	"math"
	"slices"
	"testing"

	"pontoon/api"
)

// cursors tells whether, from a place in the midst of a terminal 6 wide and 5 high, the cursor comes to each place.
func cursors(t *testing.T, begin string, want map[string]string) {
	t.Helper()
	for s, at := range want {
		e := fed(6, 5, "\x1b[3;4H", begin)
		e.Feed(s)
		if got := fmt.Sprintf("%d,%d", e.Screen().X, e.Screen().Y); got != at {
			t.Errorf("%q, %q: %s, not %s", begin, s, got, at)
		}
	}
}

func TestP1704Moves(t *testing.T) {
	cursors(t, "", map[string]string{
		"\x1b[A": "3,1", "\x1b[0A": "3,1", "\x1b[1A": "3,1", "\x1b[;5A": "3,1", "\x1b[2A": "3,0", "\x1b[3A": "3,0", "\x1b[9999A": "3,0",
		"\x1b[B": "3,3", "\x1b[0B": "3,3", "\x1b[2B": "3,4", "\x1b[3B": "3,4", "\x1b[9999B": "3,4",
		"\x1b[C": "4,2", "\x1b[0C": "4,2", "\x1b[2C": "5,2", "\x1b[3C": "5,2", "\x1b[9999C": "5,2",
		"\x1b[D": "2,2", "\x1b[0D": "2,2", "\x1b[3D": "0,2", "\x1b[4D": "0,2", "\x1b[9999D": "0,2",
		"\x1b[E": "0,3", "\x1b[0E": "0,3", "\x1b[2E": "0,4", "\x1b[9999E": "0,4",
		"\x1b[F": "0,1", "\x1b[0F": "0,1", "\x1b[2F": "0,0", "\x1b[9999F": "0,0",
		"\x1b[G": "0,2", "\x1b[0G": "0,2", "\x1b[2G": "1,2", "\x1b[6G": "5,2", "\x1b[7G": "5,2", "\x1b[9999G": "5,2",
		"\x1b[d": "3,0", "\x1b[0d": "3,0", "\x1b[2d": "3,1", "\x1b[5d": "3,4", "\x1b[6d": "3,4", "\x1b[9999d": "3,4",
		"\x1b[H": "0,0", "\x1b[0;0H": "0,0", "\x1b[;H": "0,0", "\x1b[2H": "0,1", "\x1b[2;H": "0,1", "\x1b[;3H": "2,0", "\x1b[2;3H": "2,1", "\x1b[2;3;4H": "2,1", "\x1b[9999;9999H": "5,4",
		"\x1b[f": "0,0", "\x1b[2f": "0,1", "\x1b[;3f": "2,0", "\x1b[2;3f": "2,1", "\x1b[9999;9999f": "5,4",
	})
}

// From outside of the region the way into it is open, and the way out of it never.
func TestP1704MovesAtTheRegion(t *testing.T) {
	cursors(t, "\x1b[2;4r\x1b[3;4H", map[string]string{
		"\x1b[A": "3,1", "\x1b[2A": "3,1", "\x1b[9999A": "3,1", "\x1b[9F": "0,1",
		"\x1b[B": "3,3", "\x1b[2B": "3,3", "\x1b[9999B": "3,3", "\x1b[9E": "0,3",
		"\x1b[1;2H": "1,0", "\x1b[9;2H": "1,4", "\x1b[d": "3,0", "\x1b[9d": "3,4",
	})
	cursors(t, "\x1b[2;4r\x1b[2;4H", map[string]string{"\x1b[A": "3,1", "\x1b[F": "0,1", "\x1b[9B": "3,3"})
	cursors(t, "\x1b[2;4r\x1b[4;4H", map[string]string{"\x1b[B": "3,3", "\x1b[E": "0,3", "\x1b[9A": "3,1"})
	cursors(t, "\x1b[2;4r\x1b[1;4H", map[string]string{"\x1b[A": "3,0", "\x1b[9F": "0,0", "\x1b[B": "3,1", "\x1b[9B": "3,3", "\x1b[9E": "0,3"})
	cursors(t, "\x1b[2;4r\x1b[5;4H", map[string]string{"\x1b[B": "3,4", "\x1b[9E": "0,4", "\x1b[A": "3,3", "\x1b[9A": "3,1", "\x1b[9F": "0,1"})
	cursors(t, "\x1b[3;4r\x1b[1;4H", map[string]string{"\x1b[9A": "3,0", "\x1b[9B": "3,3"})
	cursors(t, "\x1b[4;5r\x1b[3;4H", map[string]string{"\x1b[A": "3,1", "\x1b[2A": "3,0", "\x1b[F": "0,1", "\x1b[B": "3,3"})
	cursors(t, "\x1b[1;2r\x1b[3;4H", map[string]string{"\x1b[B": "3,3", "\x1b[2B": "3,4", "\x1b[E": "0,3", "\x1b[A": "3,1"})
	cursors(t, "\x1b[1;3r\x1b[5;4H", map[string]string{"\x1b[9B": "3,4", "\x1b[A": "3,3"})
}

func TestP1704Origin(t *testing.T) {
	cursors(t, "\x1b[2;4r\x1b[?6h", map[string]string{
		"": "0,1", "\x1b[H": "0,1", "\x1b[1;1H": "0,1", "\x1b[2;3H": "2,2", "\x1b[3;3f": "2,3", "\x1b[4;3H": "2,3", "\x1b[9999;9999H": "5,3",
		"\x1b[d": "0,1", "\x1b[2d": "0,2", "\x1b[9999d": "0,3", "\x1b[3G": "2,1",
		"\x1b[?6l": "0,0", "\x1b[?6l\x1b[5;2H": "1,4", "\x1b[?6h": "0,1",
		"\x1b[3;5r": "0,2", "\x1b[3;5r\x1b[2H": "0,3", "\x1b[r": "0,0", "\x1b[2H\x1b[3;3r": "0,2",
	})
	cursors(t, "", map[string]string{"\x1b[?6h": "0,0", "\x1b[?6l": "0,0", "\x1b[?6h\x1b[9;9H": "5,4", "\x1b[?6h\x1b[2;4r": "0,1", "\x1b[?6;25h": "0,0"})
}

const five = "abcdef\r\nghijkl\r\nmnopqr\r\nstuvwx\r\nABCDEF\x1b[3;4H"

// paints tells whether a terminal that is full looks so behind each text, from its midst.
func paints(t *testing.T, want map[string]string) {
	t.Helper()
	for s, l := range want {
		e := fed(6, 5, five)
		e.Feed(s)
		if got := look(e); got != l {
			t.Errorf("%q: %s, not %s", s, got, l)
		}
	}
}

func TestP1704Erase(t *testing.T) {
	paints(t, map[string]string{
		"\x1b[J":                    "abcdef|ghijkl|mno...|......|...... 3,2",
		"\x1b[0J":                   "abcdef|ghijkl|mno...|......|...... 3,2",
		"\x1b[;1J":                  "abcdef|ghijkl|mno...|......|...... 3,2",
		"\x1b[1J":                   "......|......|....qr|stuvwx|ABCDEF 3,2",
		"\x1b[2J":                   "......|......|......|......|...... 3,2",
		"\x1b[3J":                   "abcdef|ghijkl|mnopqr|stuvwx|ABCDEF 3,2",
		"\x1b[9999J":                "abcdef|ghijkl|mnopqr|stuvwx|ABCDEF 3,2",
		"\x1b[?J":                   "abcdef|ghijkl|mnopqr|stuvwx|ABCDEF 3,2",
		"\x1b[K":                    "abcdef|ghijkl|mno...|stuvwx|ABCDEF 3,2",
		"\x1b[0K":                   "abcdef|ghijkl|mno...|stuvwx|ABCDEF 3,2",
		"\x1b[;2K":                  "abcdef|ghijkl|mno...|stuvwx|ABCDEF 3,2",
		"\x1b[1K":                   "abcdef|ghijkl|....qr|stuvwx|ABCDEF 3,2",
		"\x1b[2K":                   "abcdef|ghijkl|......|stuvwx|ABCDEF 3,2",
		"\x1b[3K":                   "abcdef|ghijkl|mnopqr|stuvwx|ABCDEF 3,2",
		"\x1b[?2K":                  "abcdef|ghijkl|mnopqr|stuvwx|ABCDEF 3,2",
		"\x1b[X":                    "abcdef|ghijkl|mno.qr|stuvwx|ABCDEF 3,2",
		"\x1b[0X":                   "abcdef|ghijkl|mno.qr|stuvwx|ABCDEF 3,2",
		"\x1b[2X":                   "abcdef|ghijkl|mno..r|stuvwx|ABCDEF 3,2",
		"\x1b[3X":                   "abcdef|ghijkl|mno...|stuvwx|ABCDEF 3,2",
		"\x1b[4X":                   "abcdef|ghijkl|mno...|stuvwx|ABCDEF 3,2",
		"\x1b[9999X":                "abcdef|ghijkl|mno...|stuvwx|ABCDEF 3,2",
		"\x1b[H\x1b[1J":             ".bcdef|ghijkl|mnopqr|stuvwx|ABCDEF 0,0",
		"\x1b[5;6H\x1b[J":           "abcdef|ghijkl|mnopqr|stuvwx|ABCDE. 5,4",
		"\x1b[2;4r\x1b[3;4H\x1b[2J": "......|......|......|......|...... 3,2", // the region is no end of it
	})
}

func TestP1704Rows(t *testing.T) {
	paints(t, map[string]string{
		"\x1b[L":     "abcdef|ghijkl|......|mnopqr|stuvwx 0,2",
		"\x1b[0L":    "abcdef|ghijkl|......|mnopqr|stuvwx 0,2",
		"\x1b[2L":    "abcdef|ghijkl|......|......|mnopqr 0,2",
		"\x1b[9999L": "abcdef|ghijkl|......|......|...... 0,2",
		"\x1b[M":     "abcdef|ghijkl|stuvwx|ABCDEF|...... 0,2",
		"\x1b[2M":    "abcdef|ghijkl|ABCDEF|......|...... 0,2",
		"\x1b[9999M": "abcdef|ghijkl|......|......|...... 0,2",
		"\x1b[S":     "ghijkl|mnopqr|stuvwx|ABCDEF|...... 3,2",
		"\x1b[2S":    "mnopqr|stuvwx|ABCDEF|......|...... 3,2",
		"\x1b[9999S": "......|......|......|......|...... 3,2",
		"\x1b[T":     "......|abcdef|ghijkl|mnopqr|stuvwx 3,2",
		"\x1b[2T":    "......|......|abcdef|ghijkl|mnopqr 3,2",
		"\x1b[9999T": "......|......|......|......|...... 3,2",

		"\x1b[2;4r\x1b[3;4H\x1b[L":  "abcdef|ghijkl|......|mnopqr|ABCDEF 0,2",
		"\x1b[2;4r\x1b[3;4H\x1b[M":  "abcdef|ghijkl|stuvwx|......|ABCDEF 0,2",
		"\x1b[2;4r\x1b[2;4H\x1b[L":  "abcdef|......|ghijkl|mnopqr|ABCDEF 0,1",
		"\x1b[2;4r\x1b[4;4H\x1b[9L": "abcdef|ghijkl|mnopqr|......|ABCDEF 0,3",
		"\x1b[2;4r\x1b[4;4H\x1b[M":  "abcdef|ghijkl|mnopqr|......|ABCDEF 0,3",
		"\x1b[2;4r\x1b[1;4H\x1b[L":  "abcdef|ghijkl|mnopqr|stuvwx|ABCDEF 3,0",
		"\x1b[2;4r\x1b[1;4H\x1b[M":  "abcdef|ghijkl|mnopqr|stuvwx|ABCDEF 3,0",
		"\x1b[2;4r\x1b[5;4H\x1b[L":  "abcdef|ghijkl|mnopqr|stuvwx|ABCDEF 3,4",
		"\x1b[2;4r\x1b[5;4H\x1b[M":  "abcdef|ghijkl|mnopqr|stuvwx|ABCDEF 3,4",
		"\x1b[2;4r\x1b[1;4H\x1b[S":  "abcdef|mnopqr|stuvwx|......|ABCDEF 3,0",
		"\x1b[2;4r\x1b[5;4H\x1b[2T": "abcdef|......|......|ghijkl|ABCDEF 3,4",
	})
}

func TestP1704Cells(t *testing.T) {
	paints(t, map[string]string{
		"\x1b[@":          "abcdef|ghijkl|mno.pq|stuvwx|ABCDEF 3,2",
		"\x1b[0@":         "abcdef|ghijkl|mno.pq|stuvwx|ABCDEF 3,2",
		"\x1b[2@":         "abcdef|ghijkl|mno..p|stuvwx|ABCDEF 3,2",
		"\x1b[3@":         "abcdef|ghijkl|mno...|stuvwx|ABCDEF 3,2",
		"\x1b[9999@":      "abcdef|ghijkl|mno...|stuvwx|ABCDEF 3,2",
		"\x1b[P":          "abcdef|ghijkl|mnoqr.|stuvwx|ABCDEF 3,2",
		"\x1b[2P":         "abcdef|ghijkl|mnor..|stuvwx|ABCDEF 3,2",
		"\x1b[9999P":      "abcdef|ghijkl|mno...|stuvwx|ABCDEF 3,2",
		"\x1b[ @":         "abcdef|ghijkl|mnopqr|stuvwx|ABCDEF 3,2",
		"\x1b[3;6H\x1b[@": "abcdef|ghijkl|mnopq.|stuvwx|ABCDEF 5,2",
		"\x1b[3;1H\x1b[P": "abcdef|ghijkl|nopqr.|stuvwx|ABCDEF 0,2",
		"\x1b[2;4r\x1b[1;2H\x1b[@\x1b[5;2H\x1b[P": "a.bcde|ghijkl|mnopqr|stuvwx|ACDEF. 1,4", // the region is no end of it
	})
}

// All that comes in is blank, of the pen's Bg alone.
func TestP1704BlanksHaveThePensBg(t *testing.T) {
	for s, at := range map[string][2]int{
		"\x1b[J": {3, 2}, "\x1b[1J": {3, 2}, "\x1b[2J": {0, 0}, "\x1b[K": {5, 2}, "\x1b[1K": {0, 2}, "\x1b[2K": {0, 2}, "\x1b[X": {3, 2},
		"\x1b[L": {0, 2}, "\x1b[M": {0, 4}, "\x1b[S": {0, 4}, "\x1b[T": {0, 0}, "\x1b[@": {3, 2}, "\x1b[P": {5, 2}, "\x1b[?1049h": {3, 3},
	} {
		e := fed(6, 5, five)
		e.Feed("\x1b[1;4;7;31;45m", s)
		if c := cellAt(e, at[0], at[1]); c != (api.Cell{Rune: 32, Attr: api.Attr{Bg: 6}}) {
			t.Errorf("%q: %v", s, c)
		}
	}
}

func TestP1704Stops(t *testing.T) {
	for s, want := range map[string][]int{
		"":                             {8, 16},
		"\x1b[9G\x1b[g":                {16},
		"\x1b[9G\x1b[0g":               {16},
		"\x1b[9G\x1b[;3g":              {16},
		"\x1b[10G\x1b[g":               {8, 16},
		"\x1b[3g":                      nil,
		"\x1b[1g\x1b[2g\x1b[4g":        {8, 16},
		"\x1b[9G\x1b[1g\x1b[?g\x1b[5g": {8, 16},
		"\x1b[4G\x1bH\x1b[9G\x1b[g":    {3, 16},
		"\x1b[3g\x1b[4G\x1bH":          {3},
		"\x1b[?3g\x1b[3!g":             {8, 16},
		"\x1b[?1049h\x1b[9G\x1b[g\x1b[?1049l\x1b8": {16},
	} {
		if l := stopsOf(fed(20, 2, s)); !slices.Equal(l, want) {
			t.Errorf("%q: %v, not %v", s, l, want)
		}
	}
}

func TestP1704Region(t *testing.T) {
	for s, want := range map[string]string{
		"":                        "0 5 3,2",
		"\x1b[2;4r":               "1 4 0,0",
		"\x1b[r":                  "0 5 0,0",
		"\x1b[0;0r":               "0 5 0,0",
		"\x1b[;r":                 "0 5 0,0",
		"\x1b[2r":                 "1 5 0,0",
		"\x1b[2;r":                "1 5 0,0",
		"\x1b[2;0r":               "1 5 0,0",
		"\x1b[;3r":                "0 3 0,0",
		"\x1b[0;3r":               "0 3 0,0",
		"\x1b[2;5r":               "1 5 0,0",
		"\x1b[2;6r":               "1 5 0,0",
		"\x1b[2;9999r":            "1 5 0,0",
		"\x1b[4;5r":               "3 5 0,0",
		"\x1b[4r":                 "3 5 0,0",
		"\x1b[5r":                 "0 5 3,2",
		"\x1b[6r":                 "0 5 3,2",
		"\x1b[9999r":              "0 5 3,2",
		"\x1b[2;2r":               "0 5 3,2",
		"\x1b[3;2r":               "0 5 3,2",
		"\x1b[1;1r":               "0 5 3,2",
		"\x1b[?2;4r":              "0 5 3,2",
		"\x1b[2;4!r":              "0 5 3,2",
		"\x1b[2;4r\x1b[3;3r":      "1 4 0,0",
		"\x1b[2;4r\x1b[?1049h":    "1 4 0,0",
		"\x1b[2;4r\x1b[2;2H\x1b7": "1 4 1,1",
	} {
		e := fed(6, 5, "\x1b[3;4H", s)
		if got := fmt.Sprintf("%s %d,%d", region(e), e.Screen().X, e.Screen().Y); got != want {
			t.Errorf("%q: %s, not %s", s, got, want)
		}
	}
	e := fed(5, 1, "ab\x1b[r\x1b[1;1r\x1b[1;9r")
	if region(e) != "0 1" || e.Screen().X != 2 {
		t.Errorf("one row: %s, %d", region(e), e.Screen().X)
	}
}

func TestP1704Pen(t *testing.T) {
	for s, want := range map[string]api.Attr{
		"\x1b[m":                    {},
		"\x1b[1m":                   {Fg: 2, Bold: true},
		"\x1b[;1m":                  {Bold: true},
		"\x1b[4;7;42m":              {Fg: 2, Bg: 3, Under: true, Inverse: true},
		"\x1b[38;5;9;48;5;1m":       {Fg: 10, Bg: 2},
		"\x1b[1;2;3;4;5;6;7;92;44m": {Fg: 11, Bold: true, Under: true, Inverse: true}, // a ninth number goes
		"\x1b[?1m":                  {Fg: 2},
		"\x1b[>4;2m":                {Fg: 2},
		"\x1b[1 m":                  {Fg: 2},
	} {
		e := fed(5, 2, "\x1b[31m", s, "x")
		if c := cellAt(e, 0, 0); c != (api.Cell{Rune: 'x', Attr: want}) {
			t.Errorf("%q: %v, not %v", s, c, want)
		}
	}
}

func TestP1704Modes(t *testing.T) {
	shows(t, 5, 2, map[string]string{
		"ab\r\x1b[4hx":           "xab..|..... 1,0",
		"ab\r\x1b[4h\x1b[4lx":    "xb...|..... 1,0",
		"ab\r\x1b[;4;9hx":        "xab..|..... 1,0",
		"ab\r\x1b[20hx":          "xb...|..... 1,0",
		"ab\r\x1b[hx":            "xb...|..... 1,0",
		"ab\r\x1b[?4hx":          "xb...|..... 1,0",
		"ab\r\x1b[4h\x1b[?4lx":   "xab..|..... 1,0",
		"ab\r\x1b[>4hx\x1b[4!hx": "xx...|..... 2,0",
		"ab\r\x1b[7lx":           "xb...|..... 1,0",
		"\x1b[7labcdef":          "abcde|f.... 1,1",
		"\x1b[?7labcdef":         "abcdf|..... 4,0",
		"\x1b[?7l\x1b[?7habcdef": "abcde|f.... 1,1",
		"\x1b[?1;7labcdef":       "abcdf|..... 4,0",
		"\x1b[?7$labcdef":        "abcde|f.... 1,1",
		"\x1b[?7rabcdef":         "abcde|f.... 1,1",
		"ab\x1b[6hc\x1b[?h":      "abc..|..... 3,0",
		"ab\x1b[?5h\x1b[?1000hc": "abc..|..... 3,0",
	})
	for s, want := range map[string]bool{"": false, "\x1b[?25l": true, "\x1b[?25l\x1b[?25h": false, "\x1b[25l": false, "\x1b[?7;25l": true, "\x1b[?25;25l": true, "\x1b[?25l\x1b[25h": true, "\x1b[?25h": false} {
		if got := fed(5, 2, s).Screen().Hidden; got != want {
			t.Errorf("%q: Hidden is %t", s, got)
		}
	}
}

func TestP1704OtherScreen(t *testing.T) {
	for s, want := range map[string]string{
		"ab\x1b[?1049h":                                "true .....|.....|..... 2,0",
		"ab\x1b[?1049hcd":                              "true ..cd.|.....|..... 4,0",
		"ab\x1b[?1049hcd\x1b[?1049h":                   "true ..cd.|.....|..... 4,0", // it is there yet
		"ab\x1b[?1049hcd\x1b[?1049l":                   "false ab...|.....|..... 2,0",
		"ab\x1b[?1049hcd\x1b[?1049l\n\x1b[?1049l":      "false ab...|.....|..... 2,1",
		"ab\x1b[?1049hcd\x1b[?1049l\x1b[?1049h":        "true .....|.....|..... 2,0", // blank each time
		"ab\x1b[?1049l":                                "false ab...|.....|..... 2,0",
		"ab\x1b[?1049;1049h":                           "true .....|.....|..... 2,0",
		"ab\x1b[1049h\x1b[?1047h\x1b[?47h\x1b[?1049$h": "false ab...|.....|..... 2,0",
		"ab\x1b7\x1b[2;2H\x1b[?1049h\x1b[H\x1b[?1049l": "false ab...|.....|..... 1,1", // what is saved is one
		"ab\x1b[?1049h\x1b[3;3H\x1b7\x1b[H\x1b[?1049l": "false ab...|.....|..... 2,2",
		"ab\x1b[?1049h\x1b[3;3H\x1b[?6h\x1b[?1049l":    "false ab...|.....|..... 2,0",
		"ab\x1b[?1049h\x1bc":                           "false .....|.....|..... 0,0",
		"ab\x1b[?1049h\x1b[2;3r\x1b[?1049l":            "false ab...|.....|..... 2,0",
	} {
		e := fed(5, 3, s)
		if got := fmt.Sprint(e.Alt(), " ", look(e)); got != want {
			t.Errorf("%q: %s, not %s", s, got, want)
		}
	}
	e := fed(5, 3, "abc\x1b[31;42m\x1b[?1049h")
	for i, c := range e.Screen().Cells {
		if c != (api.Cell{Rune: 32, Attr: api.Attr{Bg: 3}}) {
			t.Errorf("all of it is blank: at %d %v", i, c)
		}
	}
	e = fed(5, 3, "\x1b[31;42m\x1b[?1049h\x1b[m\x1b[?1049lx")
	if c := cellAt(e, 0, 0); c != (api.Cell{Rune: 'x', Attr: api.Attr{Fg: 2, Bg: 3}}) {
		t.Errorf("the pen that was saved: %v", c)
	}
}

func TestP1704Replies(t *testing.T) {
	for s, want := range map[string]string{
		"\x1b[5n":   "\x1b[0n",
		"\x1b[5;6n": "\x1b[0n",
		"\x1b[6n":   "\x1b[3;4R",
		"\x1b[6;5n": "\x1b[3;4R",
		"\x1b[n":    "", "\x1b[0n": "", "\x1b[;5n": "", "\x1b[7n": "", "\x1b[?6n": "", "\x1b[>5n": "", "\x1b[5 n": "",
		"\x1b[c":   "\x1b[?1;2c",
		"\x1b[0c":  "\x1b[?1;2c",
		"\x1b[;1c": "\x1b[?1;2c",
		"\x1b[1c":  "", "\x1b[?c": "", "\x1b[>c": "", "\x1b[=0c": "", "\x1b[0!c": "",
		"\x1b[H\x1b[6n":                                      "\x1b[1;1R",
		"\x1b[9;9H\x1b[6n":                                   "\x1b[5;6R",
		"\rabcdef\x1b[6n":                                    "\x1b[3;6R",
		"\rabcdefg\x1b[6n":                                   "\x1b[4;2R",
		"\x1b[2;4r\x1b[3;4H\x1b[6n":                          "\x1b[3;4R",
		"\x1b[2;4r\x1b[?6h\x1b[6n":                           "\x1b[1;1R",
		"\x1b[2;4r\x1b[?6h\x1b[2;4H\x1b[6n":                  "\x1b[2;4R",
		"\x1b[2;4r\x1b[?6h\x1b[9;9H\x1b[6n":                  "\x1b[3;6R",
		"\x1b[?6h\x1b[1;2H\x1b7\x1b[3;5r\x1b8\x1b[6n":        "\x1b[1;2R", // above the region
		"\x1b[?6h\x1b[5;2H\x1b7\x1b[2;3r\x1b8\x1b[6n":        "\x1b[4;2R", // below it
		"\x1b[c\x1b[5nx\x1b[6n":                              "\x1b[?1;2c\x1b[0n\x1b[3;5R",
		"x\n\t\x1b7\x1b8\x1b[m\x1b[J\x1b[?7l\x1b]t\x07\x1bc": "",
	} {
		e := fed(6, 5, "\x1b[3;4H")
		if got := e.Feed(s); got != want {
			t.Errorf("%q: %q, not %q", s, got, want)
		}
	}
	e := New(40, 20)
	if got := e.Feed("\x1b[20;40H\x1b[6n"); got != "\x1b[20;40R" {
		t.Errorf("%q", got)
	}
}

// Others than the chapter's do nothing at all: with another Mark, with an Inter, or of another Byte.
func TestP1704Others(t *testing.T) {
	known := "ABCDEFGHdfJKXLM@PSTgrmhlncsu"
	check := func(a api.Act) {
		t.Helper()
		e := fed(20, 5, "\x1b[2;4r\x1b[3;20Habcdefgh")
		was := *e
		cells, stops := e.Screen().Cells, stopsOf(e)
		if s := e.Act(a); s != "" {
			t.Errorf("%+v: it replies %q", a, s)
		}
		is := *e
		if !slices.Equal(e.Screen().Cells, cells) || !slices.Equal(stopsOf(e), stops) || is.stance != was.stance || is.saved != was.saved || region(e) != "1 4" ||
			is.late != was.late || is.insert != was.insert || is.autowrap != was.autowrap || is.hidden != was.hidden || e.Alt() {
			t.Errorf("%+v: %s", a, look(e))
		}
	}
	for b := -300; b < 700; b++ {
		for _, nums := range [][]int{nil, {-1}, {0}, {1}, {2, 3}, {4}, {5}, {6}, {7}, {25}, {1049}, {9999, 9999}} {
			if !slices.Contains([]byte(known), byte(b)) || b != int(byte(b)) {
				check(api.Act{Kind: api.Csi, Byte: b, Nums: nums})
			}
			if b != 'h' && b != 'l' {
				check(api.Act{Kind: api.Csi, Mark: '?', Byte: b, Nums: nums})
			}
			if b < 32 || b > 126 {
				continue
			}
			for _, mark := range []int{'<', '=', '>', '!', 1, -1, '?' + 256} {
				check(api.Act{Kind: api.Csi, Mark: mark, Byte: b, Nums: nums})
			}
			for _, inter := range []string{" ", "!", "$", "(", "()", "\x00"} {
				check(api.Act{Kind: api.Csi, Inter: inter, Byte: b, Nums: nums})
				check(api.Act{Kind: api.Csi, Mark: '?', Inter: inter, Byte: b, Nums: nums})
			}
		}
	}
}

// What no Parser tells is no promise's, but nothing panics, and the cursor stays on the screen.
func TestP1704FarNumbers(t *testing.T) {
	for _, n := range far {
		for _, m := range far {
			e := New(5, 3)
			for b := range 128 {
				for _, mark := range []int{0, '?'} {
					e.Act(api.Act{Kind: api.Print, Rune: rune(n)}, api.Act{Kind: api.Csi, Mark: mark, Nums: []int{n, m, n, m, n, m, n, m, n, m}, Byte: b})
					onScreen(t, []int{n, m, b}, e)
				}
			}
		}
	}
	e := New(5, 3)
	for _, r := range []rune{math.MinInt32, -1, 0xd800, 0x110000, math.MaxInt32} {
		e.Act(api.Act{Kind: api.Print, Rune: r})
		onScreen(t, r, e)
	}
}
