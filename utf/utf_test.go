package utf

import (
	"slices"
	"strconv"
	"strings"
	"testing"
	"unicode/utf8"
	"unsafe"
)

func list(l ...rune) []rune { return l }

// bads is Bad n times.
func bads(n int) []rune { return slices.Repeat(list(Bad), n) }

// bytesOf makes a text of numbers.
func bytesOf(l ...byte) string { return string(l) }

// tells tells whether a Feed answers that.
func tells(t *testing.T, what string, r *Reader, want []rune, l ...string) {
	t.Helper()
	if got := r.Feed(l...); !slices.Equal(got, want) {
		t.Errorf("%s: Feed(%+q) is %x, not %x", what, l, got, want)
	}
}

// flushes tells whether a Flush answers that, and nothing is half read behind it.
func flushes(t *testing.T, what string, r *Reader, want []rune) {
	t.Helper()
	if got := r.Flush(); !slices.Equal(got, want) || r.Half() != 0 {
		t.Errorf("%s: Flush is %x, not %x, and Half %d behind it", what, got, want, r.Half())
	}
}

func half(t *testing.T, what string, r *Reader, want int) {
	t.Helper()
	if got := r.Half(); got != want {
		t.Errorf("%s: Half is %d, not %d", what, got, want)
	}
}

// model reads a whole text by the library's word of what is whole, and tells how many bytes of it are half read.
func model(s string) ([]rune, int) {
	var out []rune
	for s != "" {
		c, n := utf8.DecodeRuneInString(s)
		if c == utf8.RuneError && n == 1 {
			n = begun(s)
			if n == len(s) && !utf8.FullRuneInString(s) {
				return out, n
			}
		}
		out, s = append(out, c), s[n:]
	}
	return out, 0
}

// begun tells how many bytes of a text, that begins with no rune, could be the beginning of one; 1, if none.
func begun(s string) int {
	n := 1
	for k := 2; k <= min(3, len(s)); k++ {
		if !utf8.FullRuneInString(s[:k]) {
			n = k
		}
	}
	return n
}

// edges are the bytes at which it turns what a byte may be, and some between.
const edges = "\x00A\x7f\x80\x8f\x90\x9f\xa0\xbf\xc0\xc1\xc2\xdf\xe0\xe1\xec\xed\xee\xef\xf0\xf1\xf3\xf4\xf5\xff"

// texts goes through all texts of n of the letters.
func texts(letters string, n int, each func(s string)) {
	var all func(s string)
	all = func(s string) {
		if len(s) == n {
			each(s)
			return
		}
		for i := range len(letters) {
			all(s + letters[i:i+1])
		}
	}
	all("")
}

// everyByte is a text of all bytes.
func everyByte() string {
	var b strings.Builder
	for i := range 256 {
		b.WriteByte(byte(i))
	}
	return b.String()
}

// holds tells whether a new Reader reads a text as the model does.
func holds(t *testing.T, s string) {
	t.Helper()
	r := &Reader{}
	want, n := model(s)
	if got := r.Feed(s); !slices.Equal(got, want) || r.Half() != n {
		t.Errorf("%+q: %x, and %d half read, not %x, %d", s, got, r.Half(), want, n)
	}
}

// numbers makes numbers below n that are the same each time.
func numbers(seed int) func(n int) int {
	x := uint32(seed)
	return func(n int) int {
		x = x*1664525 + 1013904223
		return int(x>>16) % n
	}
}

// stream makes a text of runes, of parts of them, and of bytes that are none.
func stream(next func(n int) int, parts int) string {
	words := []string{"a", "\x00", "\x7f", "\xc3\xa9", "\xe2\x82\xac", "\xf0\x9f\x98\x80", "\xe2\x82", "\xf0\x9f\x98", "\xf0\x9f", "\xc3", "\xe2", "\xf0",
		"\x80", "\xac", "\xbf", "\xc0", "\xf5", "\xff", "\xe0\x9f", "\xed\xa0", "\xf0\x8f", "\xf4\x90", "\xef\xbf\xbd", "\xf4\x8f\xbf\xbf"}
	var b strings.Builder
	for range parts {
		b.WriteString(words[next(len(words))])
	}
	return b.String()
}

// cut cuts a text into parts, empty ones among them.
func cut(s string, next func(n int) int) []string {
	var l []string
	for s != "" {
		n := min(next(5), len(s))
		l = append(l, s[:n])
		s = s[n:]
	}
	return l
}

// split cuts a text into its bytes.
func split(s string) []string {
	var l []string
	for i := range len(s) {
		l = append(l, s[i:i+1])
	}
	return l
}

func TestP1201Example(t *testing.T) {
	tells(t, "the example", &Reader{}, list(Bad, 'A'), "\xe2\x82", "A")
	if Bad != 0xfffd {
		t.Errorf("Bad is %x", Bad)
	}
}

func TestP1201Nothing(t *testing.T) {
	r := &Reader{}
	for _, n := range []int{0, 1, 2, 3} {
		for _, l := range [][]string{nil, {}, {""}, {"", "", ""}} {
			tells(t, "nothing", r, nil, l...)
			half(t, "nothing", r, n)
		}
		r.Feed("\xf0\x90\x80"[n:min(n+1, 3)])
	}
}

// The first and the last rune of each length, and those about the places where a second byte may be less.
func TestP1201Runes(t *testing.T) {
	tests := []struct {
		fed  string
		want rune
	}{
		{"\x00", 0}, {"\x1b", 27}, {"a", 'a'}, {"\x7f", 0x7f},
		{"\xc2\x80", 0x80}, {"\xc3\xa9", 0xe9}, {"\xdf\x80", 0x7c0}, {"\xdf\xbf", 0x7ff},
		{"\xe0\xa0\x80", 0x800}, {"\xe0\xbf\xbf", 0xfff}, {"\xe1\x80\x80", 0x1000}, {"\xe2\x82\xac", 0x20ac},
		{"\xec\xbf\xbf", 0xcfff}, {"\xed\x80\x80", 0xd000}, {"\xed\x9f\xbf", 0xd7ff}, {"\xee\x80\x80", 0xe000},
		{"\xef\xbb\xbf", 0xfeff}, {"\xef\xbf\xbd", Bad}, {"\xef\xbf\xbe", 0xfffe}, {"\xef\xbf\xbf", 0xffff},
		{"\xf0\x90\x80\x80", 0x10000}, {"\xf0\x9f\x98\x80", 0x1f600}, {"\xf0\xbf\xbf\xbf", 0x3ffff}, {"\xf1\x80\x80\x80", 0x40000},
		{"\xf3\xbf\xbf\xbf", 0xfffff}, {"\xf4\x80\x80\x80", 0x100000}, {"\xf4\x8f\xbf\xbf", 0x10ffff},
	}
	for _, c := range tests {
		tells(t, "a rune", &Reader{}, list(c.want), c.fed)
		tells(t, "between", &Reader{}, list('a', c.want, 'b'), "a", c.fed, "b")
		tells(t, "twice", &Reader{}, list(c.want, c.want), c.fed+c.fed)
		tells(t, "behind what is no rune", &Reader{}, list(Bad, c.want, Bad, c.want), "\xff"+c.fed, "\xf1\x80\x80"+c.fed)
		r := &Reader{}
		for i := range len(c.fed) - 1 {
			tells(t, "its bytes", r, nil, c.fed[i:i+1])
			half(t, "its bytes", r, i+1)
		}
		tells(t, "its last byte", r, list(c.want), c.fed[len(c.fed)-1:])
		half(t, "all of it", r, 0)
	}
}

// may tells what may stand behind a first byte, and how many bytes are to come behind it, as the chapter tells it.
func may(first int) (from, to, n int) {
	from, to = 0x80, 0xbf
	switch first {
	case 0xe0:
		from = 0xa0
	case 0xed:
		to = 0x9f
	case 0xf0:
		from = 0x90
	case 0xf4:
		to = 0x8f
	}
	switch {
	case first >= 0xf0:
		n = 3
	case first >= 0xe0:
		n = 2
	default:
		n = 1
	}
	return from, to, n
}

func TestP1201EachFirstByte(t *testing.T) {
	for b := range 256 {
		s, r := bytesOf(byte(b)), &Reader{}
		switch {
		case b < 0x80:
			tells(t, "itself", r, list(rune(b)), s)
			half(t, "itself", r, 0)
		case b >= 0xc2 && b <= 0xf4:
			tells(t, "to go on", r, nil, s)
			half(t, "to go on", r, 1)
		default:
			tells(t, "no first byte", r, list(Bad), s)
			half(t, "no first byte", r, 0)
			tells(t, "one behind it", r, list(Bad, 'a'), s, "a")
		}
	}
}

func TestP1201EachSecondByte(t *testing.T) {
	for first := 0xc2; first <= 0xf4; first++ {
		from, to, n := may(first)
		for b := range 256 {
			r := &Reader{}
			r.Feed(bytesOf(byte(first)))
			switch {
			case b >= from && b <= to && n == 1:
				tells(t, "the last byte", r, list(rune(first&0x1f<<6|b&0x3f)), bytesOf(byte(b)))
				half(t, "the last byte", r, 0)
			case b >= from && b <= to:
				tells(t, "to go on", r, nil, bytesOf(byte(b)))
				half(t, "to go on", r, 2)
			default:
				anew(t, "a second byte", r, b)
			}
		}
	}
}

// A byte that may not stand at the third or the fourth place is read anew, whatever stood ahead of it.
func TestP1201EachFurtherByte(t *testing.T) {
	for _, ahead := range []string{"\xe0\xa0", "\xe0\xbf", "\xe1\x80", "\xed\x80", "\xed\x9f", "\xef\xbf", "\xf0\x90", "\xf0\xbf", "\xf1\x80", "\xf4\x80", "\xf4\x8f",
		"\xf0\x90\x80", "\xf0\xbf\xbf", "\xf1\x80\x80", "\xf3\xbf\xbf", "\xf4\x80\x80", "\xf4\x8f\xbf"} {
		for b := range 256 {
			r := &Reader{}
			r.Feed(ahead)
			half(t, "ahead", r, len(ahead))
			_, _, n := may(int(ahead[0]))
			switch {
			case b < 0x80 || b > 0xbf:
				anew(t, "a further byte", r, b)
			case len(ahead) < n:
				tells(t, "to go on", r, nil, bytesOf(byte(b)))
				half(t, "to go on", r, len(ahead)+1)
			default:
				c, _ := utf8.DecodeRuneInString(ahead + bytesOf(byte(b)))
				tells(t, "the last byte", r, list(c), bytesOf(byte(b)))
				half(t, "the last byte", r, 0)
			}
		}
	}
}

// anew tells whether a byte ends what is half read, one Bad for all of it, and is read as a first one.
func anew(t *testing.T, what string, r *Reader, b int) {
	t.Helper()
	fresh := &Reader{}
	want := append(list(Bad), fresh.Feed(bytesOf(byte(b)))...)
	tells(t, what+" that may not be", r, want, bytesOf(byte(b)))
	half(t, what+" that may not be", r, fresh.Half())
}

func TestP1201WhatIsNoRune(t *testing.T) {
	tests := []struct {
		what, fed string
		want      []rune
	}{
		{"none goes ahead", "\x80", bads(1)},
		{"many of them", "\x80\xbf\x90", bads(3)},
		{"one more behind a rune", "\xc3\xa9\xa9", list(0xe9, Bad)},
		{"one more behind three", "\xe2\x82\xac\xac", list(0x20ac, Bad)},
		{"one more behind four", "\xf0\x9f\x98\x80\x80", list(0x1f600, Bad)},
		{"two bytes below 128", "\xc0\x80\xc1\xbf", bads(4)},
		{"three bytes below 2048", "\xe0\x80\x80\xe0\x9f\xbf", bads(6)},
		{"four bytes below 65536", "\xf0\x80\x80\x80\xf0\x8f\xbf\xbf", bads(8)},
		{"halves of pairs", "\xed\xa0\x80\xed\xbf\xbf", bads(6)},
		{"above the last one", "\xf4\x90\x80\x80\xf5\x80\x80\x80", bads(8)},
		{"five bytes", "\xf8\x88\x80\x80\x80", bads(5)},
		{"no first bytes", "\xfe\xff", bads(2)},
		{"a letter behind one", "\xc3A", list(Bad, 'A')},
		{"a letter behind two", "\xe2\x82A", list(Bad, 'A')},
		{"a letter behind three", "\xf0\x9f\x98A", list(Bad, 'A')},
		{"a letter between", "\xe2(\xa1", list(Bad, '(', Bad)},
		{"a first byte behind one", "\xe2\xe2\x82\xac", list(Bad, 0x20ac)},
		{"a first byte behind two", "\xe2\x82\xe2\x82\xac", list(Bad, 0x20ac)},
		{"a first byte behind three", "\xf0\x90\x80\xc3\xa9", list(Bad, 0xe9)},
		{"first bytes alone", "\xc2\xe0\xf0\xf4\xed a", append(bads(5), ' ', 'a')},
		{"no first byte behind one", "\xe2\xff", bads(2)},
		{"no first byte behind three", "\xf1\x80\x80\xc0", bads(2)},
		{"a second byte that may stand elsewhere", "\xe0\x9f\xbf", bads(3)},
		{"Bad itself", "\xef\xbf\xbd\xef\xbf", list(Bad)},
	}
	for _, c := range tests {
		tells(t, c.what, &Reader{}, c.want, c.fed)
		tells(t, c.what+", by bytes", &Reader{}, c.want, split(c.fed)...)
		r := &Reader{}
		tells(t, c.what+", a letter ahead", r, append(list('x'), c.want...), "x"+c.fed)
		want := list('y')
		if r.Half() > 0 {
			want = list(Bad, 'y')
		}
		tells(t, c.what+", a letter behind", r, want, "y")
	}
}

func TestP1201EachPairOfBytes(t *testing.T) {
	texts(everyByte(), 2, func(s string) { holds(t, s) })
}

func TestP1201EachTextOfEdges(t *testing.T) {
	for n := range 5 {
		texts(edges, n, func(s string) { holds(t, s) })
	}
}

// What stood ahead doesn't count, as soon as it is told.
func TestP1201LongerTextsOfEdges(t *testing.T) {
	const few = "a\x80\x90\xa0\xc3\xe0\xed\xf0\xf4"
	texts(few, 6, func(s string) { holds(t, s) })
}

// However bytes are cut, in one Feed or in many, the runes are the same.
func TestP1201HoweverItIsCut(t *testing.T) {
	for seed := range 3000 {
		next := numbers(seed)
		s := stream(next, 1+next(40))
		want, n := model(s)
		tells(t, "whole", &Reader{}, want, s)
		tells(t, "many texts", &Reader{}, want, cut(s, next)...)
		feeds, bytes := &Reader{}, &Reader{}
		var l, m []rune
		for _, p := range cut(s, next) {
			l = append(l, feeds.Feed(p)...)
		}
		for i := range len(s) {
			m = append(m, bytes.Feed(s[i:i+1])...)
		}
		if !slices.Equal(l, want) || !slices.Equal(m, want) {
			t.Fatalf("%+q: %x by parts, %x by bytes, not %x", s, l, m, want)
		}
		half(t, "by parts", feeds, n)
		half(t, "by bytes", bytes, n)
	}
}

func TestP1201EachShortTextCutAtEachPlace(t *testing.T) {
	const few = "a\x80\x90\xa0\xc3\xe2\xf0\xf4\xff"
	texts(few, 5, func(s string) {
		want, n := model(s)
		for k := range len(s) + 1 {
			r := &Reader{}
			if got := slices.Concat(r.Feed(s[:k]), r.Feed(s[k:])); !slices.Equal(got, want) || r.Half() != n {
				t.Fatalf("%+q, cut at %d: %x, %d, not %x, %d", s, k, got, r.Half(), want, n)
			}
		}
	})
}

func TestP1201ReadersAreTheirOwn(t *testing.T) {
	a, b := &Reader{}, &Reader{}
	tells(t, "one", a, nil, "\xe2\x82")
	tells(t, "another", b, list('x'), "x")
	half(t, "one", a, 2)
	half(t, "another", b, 0)
	tells(t, "one", a, list(0x20ac), "\xac")
	tells(t, "another", b, list(Bad), "\xac")
}

func TestP1201AnswersAreTheirOwn(t *testing.T) {
	r, fed := &Reader{}, []string{"ab", "\xe2\x82", "\xacc\xff"}
	want := list('a', 'b', 0x20ac, 'c', Bad)
	first, second := r.Feed(fed...), r.Feed(fed...)
	clear(first[:cap(first)])
	tells(t, "a third time", r, want, fed...)
	if !slices.Equal(second, want) || !slices.Equal(fed, []string{"ab", "\xe2\x82", "\xacc\xff"}) {
		t.Errorf("%x of %+q", second, fed)
	}
}

func TestP1202Flush(t *testing.T) {
	for _, s := range []string{"\xc3", "\xe2", "\xe2\x82", "\xf0", "\xf0\x9f", "\xf0\x9f\x98", "\xf4\x8f\xbf", "\xed\x9f"} {
		r := &Reader{}
		tells(t, "half a rune", r, list('a'), "a"+s)
		half(t, "half a rune", r, len(s))
		flushes(t, "half a rune", r, bads(1))
		flushes(t, "again", r, nil)
		tells(t, "what would have gone on", r, list(Bad, 'b'), "\x80b")
		tells(t, "half a rune again", r, nil, s)
		flushes(t, "half a rune again", r, bads(1))
		tells(t, "a rune behind", r, list(0x20ac), "\xe2\x82", "\xac")
		flushes(t, "a rune behind", r, nil)
	}
}

func TestP1202FlushOfNothing(t *testing.T) {
	r := &Reader{}
	flushes(t, "a zero one", r, nil)
	for _, s := range []string{"", "a", "\x00", "\xc3\xa9", "\xe2\x82\xac", "\xf0\x9f\x98\x80", "\xff", "\x80", "\xe2\x82a", "\xf0\x9f\x98\xff"} {
		r.Feed(s)
		flushes(t, strconv.QuoteToASCII(s), r, nil)
	}
}

func TestP1202FlushesAreTheirOwn(t *testing.T) {
	r := &Reader{}
	r.Feed("\xe2")
	first := r.Flush()
	first[0] = 'x'
	clear(first[:cap(first)])
	r.Feed("\xe2\x82")
	flushes(t, "another", r, bads(1))
}

// Half is at most 3, and to ask for it changes nothing.
func TestP1202Half(t *testing.T) {
	texts(edges, 4, func(s string) {
		r := &Reader{}
		for i := range len(s) {
			r.Feed(s[i : i+1])
			_, n := model(s[:i+1])
			if r.Half() != n || r.Half() != n || n > 3 {
				t.Fatalf("%+q: Half is %d, not %d", s[:i+1], r.Half(), n)
			}
		}
	})
}

// However much comes, what is kept is but a few numbers.
func TestP1202LittleIsKept(t *testing.T) {
	if n := unsafe.Sizeof(Reader{}); n > 40 {
		t.Errorf("a Reader has %d bytes", n)
	}
	r := &Reader{}
	for range 100 {
		tells(t, "first bytes", r, bads(999+min(1, r.Half())), strings.Repeat("\xf0", 1000))
		half(t, "first bytes", r, 1)
	}
}

func TestP1202Text(t *testing.T) {
	tests := []struct {
		l    []rune
		want string
	}{
		{nil, ""}, {list(), ""}, {list(0), "\x00"}, {list('a', 'b', 'a'), "aba"}, {list(0x7f, 0x80), "\x7f\xc2\x80"},
		{list(0xe9, 0x7ff), "\xc3\xa9\xdf\xbf"}, {list(0x800, 0x20ac), "\xe0\xa0\x80\xe2\x82\xac"}, {list(0xd7ff, 0xe000), "\xed\x9f\xbf\xee\x80\x80"},
		{list(0xfffe, 0xffff), "\xef\xbf\xbe\xef\xbf\xbf"}, {list(0x10000, 0x1f600, 0x10ffff), "\xf0\x90\x80\x80\xf0\x9f\x98\x80\xf4\x8f\xbf\xbf"},
		{list(Bad), "\xef\xbf\xbd"}, {list('a', Bad, 'b'), "a\xef\xbf\xbdb"},
	}
	for _, c := range tests {
		if got := Text(c.l...); got != c.want {
			t.Errorf("Text(%x) is %+q, not %+q", c.l, got, c.want)
		}
	}
	if got := Text(); got != "" {
		t.Errorf("Text() is %+q", got)
	}
}

func TestP1202TextOfWhatIsNoRune(t *testing.T) {
	const bad = "\xef\xbf\xbd"
	for _, c := range []rune{-1, -2, -128, -65_536, -1 << 31, -1<<31 + 'a', 0x110000, 0x110001, 0x1fffff, 0x200000, 1<<31 - 1, 0xd800, 0xd801, 0xdabc, 0xdbff, 0xdc00, 0xdfff} {
		if got := Text(c); got != bad {
			t.Errorf("Text(%x) is %+q", c, got)
		}
		if got := Text('a', c, 'b', c); got != "a"+bad+"b"+bad {
			t.Errorf("Text of %x between is %+q", c, got)
		}
	}
	for c := rune(0xd800); c <= 0xdfff; c++ {
		if got := Text(c); got != bad {
			t.Errorf("Text(%x) is %+q", c, got)
		}
	}
	if got := Text(0xd83d, 0xde00); got != bad+bad { // no pair is put together
		t.Errorf("Text of a pair is %+q", got)
	}
}

func TestP1202TextChangesNothing(t *testing.T) {
	l := list('a', -1, 0x20ac, 0xd800, 0x110000)
	was := slices.Clone(l)
	got := Text(l...)
	if !slices.Equal(l, was) {
		t.Errorf("%x is now %x", was, l)
	}
	l[0] = 'z'
	if want := "a\xef\xbf\xbd\xe2\x82\xac\xef\xbf\xbd\xef\xbf\xbd"; got != want {
		t.Errorf("%+q, not %+q", got, want)
	}
}

func TestP1202NilReader(t *testing.T) {
	var r *Reader
	for range 2 {
		tells(t, "a nil one", r, nil)
		tells(t, "a nil one", r, nil, "a", "\xff", "\xe2")
		half(t, "a nil one", r, 0)
		flushes(t, "a nil one", r, nil)
	}
}

// Every rune is read as Text laid it, alone and by its bytes.
func TestP1203EveryRune(t *testing.T) {
	for c := rune(0); c <= 0x10ffff; c++ {
		want := c
		if c >= 0xd800 && c <= 0xdfff {
			want = Bad
		}
		s, r := Text(c), &Reader{}
		got := r.Feed(s)
		for i := range len(s) {
			got = append(got, r.Feed(s[i:i+1])...)
		}
		if !slices.Equal(got, list(want, want)) || r.Half() != 0 {
			t.Fatalf("%x: Text is %+q, read as %x", c, s, got)
		}
	}
}

// A text of many runes is read whole, however it is cut, and what was told ahead of it is no part of it.
func TestP1203WholeTexts(t *testing.T) {
	tops := []int{0x80, 0x800, 0x10000, 0x110000}
	for seed := range 500 {
		next := numbers(seed)
		var l []rune
		for range next(60) {
			c := rune((next(17)<<16 | next(1<<16)) % tops[next(4)])
			if c >= 0xd800 && c <= 0xdfff {
				c = Bad
			}
			l = append(l, c)
		}
		s, r := Text(l...), &Reader{}
		tells(t, "half a rune", r, nil, "\xf0\x9f\x98")
		flushes(t, "half a rune", r, bads(1))
		tells(t, "a text", r, l, s)
		tells(t, "its parts", r, l, cut(s, next)...)
		half(t, "a text", r, 0)
		if got := Text(r.Feed(s)...); got != s {
			t.Fatalf("%+q is read, and laid as %+q", s, got)
		}
	}
}

// Whatever comes is laid again as runes that are read as they were.
func TestP1203WhateverComes(t *testing.T) {
	for seed := range 1000 {
		next := numbers(seed)
		r := &Reader{}
		l := append(r.Feed(stream(next, 30)), r.Flush()...)
		tells(t, "what was told", &Reader{}, l, Text(l...))
		if i := slices.IndexFunc(l, func(c rune) bool { return !utf8.ValidRune(c) }); i >= 0 {
			t.Fatalf("%x is no rune", l[i])
		}
	}
}
