package nvt

import (
	"slices"
	"strconv"
	"strings"
	"testing"
	"unsafe"

	"pontoon/api"
)

func data(s string) api.Token       { return api.Token{Kind: api.Data, Text: s} }
func command(c int) api.Token       { return api.Token{Kind: api.Command, Cmd: c} }
func option(c, o int) api.Token     { return api.Token{Kind: api.Option, Cmd: c, Opt: o} }
func sub(o int, s string) api.Token { return api.Token{Kind: api.Sub, Opt: o, Text: s} }

func list(l ...api.Token) []api.Token { return l }

// bytesOf makes a text of numbers.
func bytesOf(l ...byte) string { return string(l) }

// some is a text of n bytes that a Sub may have as they are.
func some(n int) string { return strings.Repeat("s", n) }

// begin and end stand about the bytes of a Sub.
func begin(opt byte) string { return bytesOf(api.IAC, api.SB, opt) }

const end = "\xff\xf0"

// tells tells whether a Feed answers that.
func tells(t *testing.T, what string, r *Reader, want []api.Token, l ...string) {
	t.Helper()
	if got := r.Feed(l...); !slices.Equal(got, want) {
		t.Errorf("%s: Feed(%q) is %#v, not %#v", what, l, got, want)
	}
}

// is tells whether a Reader is whole, and how many bytes of a Sub it keeps.
func is(t *testing.T, what string, r *Reader, whole bool, n int) {
	t.Helper()
	if w, k := r.Whole(), r.Sub(); w != whole || k != n {
		t.Errorf("%s: Whole is %t, Sub %d, not %t, %d", what, w, k, whole, n)
	}
}

// joined makes one token of Data that no other stands between.
func joined(l []api.Token) []api.Token {
	var out []api.Token
	for _, y := range l {
		if n := len(out); n > 0 && y.Kind == api.Data && out[n-1].Kind == api.Data {
			out[n-1].Text += y.Text
			continue
		}
		out = append(out, y)
	}
	return out
}

func TestP801Example(t *testing.T) {
	tells(t, "the example", &Reader{}, list(data("a\rb\xff")), "a\r\x00b", "\xff\xff")
}

func TestP801Nothing(t *testing.T) {
	r := &Reader{}
	for _, l := range [][]string{nil, {}, {""}, {"", "", ""}} {
		tells(t, "nothing", r, nil, l...)
		is(t, "nothing", r, true, 0)
	}
}

// Each byte but IAC is Data, behind which the next one stands.
func TestP801EachByteOfData(t *testing.T) {
	for _, binary := range []bool{false, true} {
		for b := range api.IAC {
			s := bytesOf(byte(b))
			tells(t, "a byte", &Reader{Binary: binary}, list(data(s)), s)
			tells(t, "between", &Reader{Binary: binary}, list(data("a"+s+"b")), "a"+s+"b")
		}
	}
}

func TestP801ZeroBehind13(t *testing.T) {
	tests := []struct{ what, fed, plain, binary string }{
		{"a zero goes", "\r\x00", "\r", "\r\x00"},
		{"one alone", "\r\x00\x00", "\r\x00", "\r\x00\x00"},
		{"behind each", "\r\x00\r\x00", "\r\r", "\r\x00\r\x00"},
		{"behind the second", "\r\r\x00", "\r\r", "\r\r\x00"},
		{"a line's end", "\r\n", "\r\n", "\r\n"},
		{"a zero behind a line's end", "\r\n\x00", "\r\n\x00", "\r\n\x00"},
		{"any other", "\ra\x00", "\ra\x00", "\ra\x00"},
		{"ahead of a 13", "\x00\r", "\x00\r", "\x00\r"},
		{"no 13", "\x00a\n\x00", "\x00a\n\x00", "\x00a\n\x00"},
		{"a 13 at the end", "a\r", "a\r", "a\r"},
		{"255 between", "\r\xff\xff\x00", "\r\xff\x00", "\r\xff\x00"},
		{"255 ahead", "\xff\xff\r\x00a", "\xff\ra", "\xff\r\x00a"},
	}
	for _, c := range tests {
		tells(t, c.what, &Reader{}, list(data(c.plain)), c.fed)
		tells(t, c.what+", Binary", &Reader{Binary: true}, list(data(c.binary)), c.fed)
	}
	for b := 1; b < api.IAC; b++ {
		s := "\r" + bytesOf(byte(b))
		tells(t, "behind a 13", &Reader{}, list(data(s)), s)
	}
}

// The 13 isn't kept back till it is known what stands behind it.
func TestP801The13IsToldAtOnce(t *testing.T) {
	r := &Reader{}
	tells(t, "a 13", r, list(data("\r")), "\r")
	tells(t, "its zero", r, nil, "\x00")
	tells(t, "the next", r, list(data("\x00")), "\x00")
	tells(t, "its zero, in one Feed", r, list(data("\r")), "\r", "", "\x00")
}

// A byte 13 that is no Data has no zero behind it that would go.
func TestP801A13ThatIsNoData(t *testing.T) {
	tells(t, "a command", &Reader{}, list(command(13), data("\x00")), "\xff\r\x00")
	tells(t, "an option", &Reader{}, list(option(api.DO, 13), data("\x00")), "\xff\xfd\r\x00")
	tells(t, "a Sub's option", &Reader{}, list(sub(13, "\x00")), begin(13)+"\x00"+end)
	tells(t, "a Sub's end", &Reader{}, list(sub(1, "\r"), data("\x00")), begin(1)+"\r"+end+"\x00")
}

func TestP801CommandBehindA13(t *testing.T) {
	tests := []struct {
		what, fed string
		want      api.Token
	}{
		{"a command", "\xff\xf1", command(241)},
		{"an option", "\xff\xfb\x01", option(api.WILL, 1)},
		{"a Sub", begin(1) + "x" + end, sub(1, "x")},
	}
	for _, c := range tests {
		tells(t, c.what, &Reader{}, list(data("\r"), c.want, data("\x00a")), "\r"+c.fed+"\x00a")
		tells(t, c.what, &Reader{}, list(data("\r"), c.want, data("\ra")), "\r"+c.fed+"\r\x00a")
	}
	tells(t, "what says nothing", &Reader{}, list(data("\r\x00")), "\r"+begin(1)+some(api.MaxSub+1)+end+"\x00")
}

func TestP801EachByteBehindIAC(t *testing.T) {
	for b := range 256 {
		fed := "a" + bytesOf(api.IAC, byte(b))
		switch {
		case b == api.IAC:
			r := &Reader{}
			tells(t, "IAC", r, list(data("a\xff")), fed)
			is(t, "IAC", r, true, 0)
		case b >= api.SB && b <= api.DONT:
			r := &Reader{}
			tells(t, "to go on", r, list(data("a")), fed)
			is(t, "to go on", r, false, 0)
		default:
			r := &Reader{}
			tells(t, "a command", r, list(data("a"), command(b), data("b")), fed+"b")
			is(t, "a command", r, true, 0)
		}
	}
}

func TestP801Options(t *testing.T) {
	for cmd := api.WILL; cmd <= api.DONT; cmd++ {
		for o := range 256 {
			fed := bytesOf(api.IAC, byte(cmd), byte(o))
			for _, binary := range []bool{false, true} {
				tells(t, "an option", &Reader{Binary: binary}, list(data("a"), option(cmd, o), data("b"), option(cmd, o)), "a"+fed+"b"+fed)
			}
		}
	}
}

// 255 as an option is one byte, and what stands behind it is new.
func TestP801OptionOf255(t *testing.T) {
	tells(t, "255", &Reader{}, list(option(api.WILL, 255), data("\xf1\xff")), "\xff\xfb\xff\xf1\xff\xff")
	tells(t, "255 of a Sub", &Reader{}, list(sub(255, "\xf0")), "\xff\xfa\xff\xf0"+end)
	tells(t, "255 of a Sub, no bytes", &Reader{}, list(sub(255, ""), data("a")), "\xff\xfa\xff"+end+"a")
}

func TestP801Sub(t *testing.T) {
	for o := range 256 {
		tells(t, "an option", &Reader{}, list(sub(o, "ab")), begin(byte(o))+"ab"+end)
		tells(t, "no bytes", &Reader{}, list(sub(o, "")), begin(byte(o))+end)
	}
	for b := range 256 {
		s := bytesOf(byte(b))
		for _, binary := range []bool{false, true} {
			tells(t, "a byte", &Reader{Binary: binary}, list(sub(1, "a"+s+"b")), begin(1)+"a"+strings.ReplaceAll(s, "\xff", "\xff\xff")+"b"+end)
		}
	}
	tells(t, "no 13 of its own", &Reader{}, list(sub(1, "\r\x00\r\n")), begin(1)+"\r\x00\r\n"+end)
	tells(t, "255 at its end", &Reader{}, list(sub(1, "\xff"), data("a")), begin(1)+"\xff\xff"+end+"a")
	tells(t, "two", &Reader{}, list(sub(1, "a"), sub(2, "b")), begin(1)+"a"+end+begin(2)+"b"+end)
}

func TestP801SubOfMaxSub(t *testing.T) {
	tests := []struct {
		what string
		text string
		told bool
	}{
		{"one less", some(api.MaxSub - 1), true},
		{"as many", some(api.MaxSub), true},
		{"one more", some(api.MaxSub + 1), false},
		{"many more", some(9 * api.MaxSub), false},
		{"255s count once", strings.Repeat("\xff", api.MaxSub), true},
		{"a 255 more", some(api.MaxSub) + "\xff", false},
		{"255s more", strings.Repeat("\xff", api.MaxSub+1), false},
	}
	for _, c := range tests {
		r, fed := &Reader{}, begin(24)+strings.ReplaceAll(c.text, "\xff", "\xff\xff")+end
		if c.told {
			tells(t, c.what, r, list(data("a"), sub(24, c.text), data("b")), "a", fed, "b")
		} else {
			tells(t, c.what, r, list(data("ab")), "a", fed, "b")
		}
		is(t, c.what, r, true, 0)
		tells(t, c.what+", one behind it", r, list(sub(1, "x")), begin(1)+"x"+end)
	}
}

// A Sub is given up by any byte behind IAC but IAC and SE, and what gives it up is what it is elsewhere.
func TestP801SubIsGivenUp(t *testing.T) {
	for _, text := range []string{"", "x", some(api.MaxSub), some(api.MaxSub + 9), "\xff\xff"} {
		for b := range 256 {
			if b == api.IAC || b == api.SE {
				continue
			}
			r, fed := &Reader{}, "a"+begin(24)+text+bytesOf(api.IAC, byte(b))
			switch {
			case b >= api.WILL && b <= api.DONT:
				tells(t, "by an option", r, list(data("a")), fed)
				is(t, "by an option", r, false, 0)
				tells(t, "by an option", r, list(option(b, 31), data("z")), "\x1fz")
			case b == api.SB:
				tells(t, "by a Sub", r, list(data("a")), fed)
				is(t, "by a Sub", r, false, 0)
				tells(t, "by a Sub", r, list(sub(31, "y"), data("z")), "\x1fy"+end+"z")
			default:
				tells(t, "by a command", r, list(data("a"), command(b), data("z")), fed+"z")
			}
			is(t, "given up", r, true, 0)
		}
	}
	tells(t, "SE without a Sub", &Reader{}, list(command(api.SE)), end)
	tells(t, "SE behind one that was given up", &Reader{}, list(command(241), data("b"), command(api.SE)), begin(1)+"a\xff\xf1b"+end)
	tells(t, "again and again", &Reader{}, list(sub(3, "c")), begin(1)+"a"+begin(2)+"b"+begin(3)+"c"+end)
}

// Bytes of Data are one token as long as nothing else is told, in whatever texts they come.
func TestP801DataIsOneToken(t *testing.T) {
	r := &Reader{}
	tells(t, "many texts", r, list(data("abc\rd\xff")), "a", "", "bc", "\r", "\x00", "d\xff", "\xff")
	tells(t, "about what says nothing", r, list(data("ab")), "a"+begin(1)+some(99), end+"b")
	tells(t, "about a token", r, list(data("a"), command(241), data("b")), "a\xff", "\xf1b")
	tells(t, "no Data", r, list(command(241), command(242)), "\xff\xf1\xff", "\xf2")
	tells(t, "another Feed", r, list(data("c")), "c")
	tells(t, "one more", r, list(data("d")), "d")
}

func TestP801WhatIsHalfStaysForTheNextFeed(t *testing.T) {
	r := &Reader{}
	tells(t, "IAC", r, nil, "\xff")
	tells(t, "WILL", r, nil, "\xfb")
	tells(t, "its option", r, list(option(api.WILL, 0)), "\x00")
	tells(t, "a Sub", r, nil, "\xff", "\xfa")
	tells(t, "its option", r, nil, "\x18")
	tells(t, "its bytes", r, nil, "a\xff")
	tells(t, "its bytes", r, nil, "\xff")
	tells(t, "its end", r, nil, "b\xff")
	tells(t, "all of it", r, list(sub(24, "a\xffb"), data("c")), "\xf0c")
}

// model cuts a whole text, by its parts and not byte by byte.
func model(s string, binary bool) []api.Token {
	var out []api.Token
	for s != "" {
		var l []api.Token
		l, s = part(s, binary)
		out = append(out, l...)
	}
	return joined(out)
}

// part tells what a text begins with, and what stands behind.
func part(s string, binary bool) ([]api.Token, string) {
	cmd, rest := "", ""
	switch {
	case strings.HasPrefix(s, "\xff\xff"):
		return list(data("\xff")), s[2:]
	case s[0] != api.IAC && !binary && strings.HasPrefix(s, "\r\x00"):
		return list(data("\r")), s[2:]
	case s[0] != api.IAC:
		return list(data(s[:1])), s[1:]
	case len(s) == 1:
		return nil, ""
	default:
		cmd, rest = s[1:2], s[2:]
	}
	switch {
	case cmd[0] < api.SB:
		return list(command(int(cmd[0]))), rest
	case rest == "":
		return nil, ""
	case cmd[0] > api.SB:
		return list(option(int(cmd[0]), int(rest[0]))), rest[1:]
	}
	return subPart(int(rest[0]), rest[1:])
}

// subPart tells the Sub that a text goes on with. Zeros stand for pairs of 255, so that a single one is easily found.
func subPart(opt int, s string) ([]api.Token, string) {
	masked := strings.ReplaceAll(s, "\xff\xff", "\x00\x00")
	i := strings.IndexByte(masked, api.IAC)
	if i < 0 || i == len(s)-1 {
		return nil, ""
	}
	text := strings.ReplaceAll(s[:i], "\xff\xff", "\xff")
	switch {
	case s[i+1] != api.SE:
		return nil, s[i:]
	case len(text) > api.MaxSub:
		return nil, s[i+2:]
	}
	return list(sub(opt, text)), s[i+2:]
}

// numbers makes numbers below n that are the same each time.
func numbers(seed int) func(n int) int {
	x := uint32(seed)
	return func(n int) int {
		x = x*1664525 + 1013904223
		return int(x>>16) % n
	}
}

// stream makes a text of which much means something to Telnet.
func stream(next func(n int) int, parts int) string {
	words := []string{"\xff", "\xff", "\xff", "\xff\xff", "\xf0", end, end, "\xfa", begin(24), begin(255), "\xfb", "\xff\xfd\x1f", "\xff\xf1",
		"\r", "\r\x00", "\r\n", "\x00", "a", "text", some(api.MaxSub - 2), some(3)}
	var b strings.Builder
	for range parts {
		b.WriteString(words[next(len(words))])
	}
	return b.String()
}

// cut cuts a text into parts, empty ones among them.
func cut(s string, next func(n int) int) []string {
	var l []string
	for s != "" {
		n := min(next(6), len(s))
		l = append(l, s[:n])
		s = s[n:]
	}
	return l
}

func TestP801HoweverItIsCut(t *testing.T) {
	for seed := range 3000 {
		next := numbers(seed)
		s, binary := stream(next, 1+next(40)), seed%2 == 1
		want := model(s, binary)
		tells(t, "whole", &Reader{Binary: binary}, want, s)
		tells(t, "many texts", &Reader{Binary: binary}, want, cut(s, next)...)
		feeds, bytes := &Reader{Binary: binary}, &Reader{Binary: binary}
		var l, m []api.Token
		for _, p := range cut(s, next) {
			l = append(l, feeds.Feed(p)...)
		}
		for i := range len(s) {
			m = append(m, bytes.Feed(s[i:i+1])...)
		}
		if !slices.Equal(joined(l), want) || !slices.Equal(joined(m), want) {
			t.Fatalf("%q: %#v by parts, %#v by bytes, not %#v", s, l, m, want)
		}
		if feeds.Whole() != bytes.Whole() || feeds.Sub() != bytes.Sub() {
			t.Fatalf("%q: %t, %d by parts, %t, %d by bytes", s, feeds.Whole(), feeds.Sub(), bytes.Whole(), bytes.Sub())
		}
	}
}

// Each text of up to five bytes that mean something, cut at each place.
func TestP801EveryShortText(t *testing.T) {
	const letters = "\xff\xf0\xfa\xfb\x00\ra\xf1"
	var all func(s string, left int)
	all = func(s string, left int) {
		want := model(s, false)
		for k := range len(s) + 1 {
			r := &Reader{}
			if got := joined(slices.Concat(r.Feed(s[:k]), r.Feed(s[k:]))); !slices.Equal(got, want) {
				t.Fatalf("%q, cut at %d: %#v, not %#v", s, k, got, want)
			}
		}
		if left > 0 {
			for i := range len(letters) {
				all(s+letters[i:i+1], left-1)
			}
		}
	}
	all("", 5)
}

func TestP801ReadersAreTheirOwn(t *testing.T) {
	a, b := &Reader{}, &Reader{}
	tells(t, "one", a, nil, begin(1)+"x")
	tells(t, "another", b, list(data("x\r")), "x\r")
	is(t, "one", a, false, 1)
	is(t, "another", b, true, 0)
	tells(t, "one", a, list(sub(1, "x"), data("\x00")), end+"\x00")
	tells(t, "another", b, nil, "\x00")
}

func TestP801AnswersAreTheirOwn(t *testing.T) {
	r, fed := &Reader{}, []string{"abc", begin(1) + "def" + end, "g"}
	want := list(data("abc"), sub(1, "def"), data("g"))
	first, second := r.Feed(fed...), r.Feed(fed...)
	for i := range first {
		first[i] = command(i)
	}
	tells(t, "a third time", r, want, fed...)
	if !slices.Equal(second, want) || !slices.Equal(fed, []string{"abc", begin(1) + "def" + end, "g"}) {
		t.Errorf("%#v of %q", second, fed)
	}
	for _, y := range second {
		for _, s := range fed {
			if p, q := uintptr(unsafe.Pointer(unsafe.StringData(y.Text))), uintptr(unsafe.Pointer(unsafe.StringData(s))); p >= q && p < q+uintptr(len(s)) {
				t.Errorf("%q lies in what was handed in", y.Text)
			}
		}
	}
}

// A text that a Reader told stays what it was, whatever the Reader keeps next.
func TestP801TextsStay(t *testing.T) {
	r := &Reader{}
	var l []api.Token
	for i := range 200 {
		l = append(l, r.Feed(begin(byte(i))+strconv.Itoa(i)+end)...)
	}
	for i, y := range l {
		if y != sub(i, strconv.Itoa(i)) {
			t.Errorf("%#v is not %d", y, i)
		}
	}
}

func TestP802WholeAndSub(t *testing.T) {
	tests := []struct {
		fed   string
		whole bool
		n     int
	}{
		{"", true, 0}, {"a", true, 0}, {"a\r", true, 0}, {"\r\x00", true, 0}, {"\xff\xff", true, 0},
		{"\xff", false, 0}, {"\r\xff", false, 0}, {"\xff\xff\xff", false, 0}, {"\xff\xf1", true, 0}, {end, true, 0},
		{"\xff\xfb", false, 0}, {"\xff\xfc", false, 0}, {"\xff\xfd", false, 0}, {"\xff\xfe", false, 0}, {"\xff\xfb\xff", true, 0},
		{"\xff\xfa", false, 0}, {begin(1), false, 0}, {begin(255), false, 0}, {begin(1) + end, true, 0},
		{begin(1) + "ab", false, 2}, {begin(1) + "a\r", false, 2}, {begin(1) + "a\r\x00", false, 3},
		{begin(1) + "ab\xff", false, 2}, {begin(1) + "ab\xff\xff", false, 3}, {begin(1) + "ab" + end, true, 0},
		{begin(1) + "ab\xff\xf1", true, 0}, {begin(1) + "ab\xff\xfd", false, 0}, {begin(1) + "ab\xff\xfd\x01", true, 0},
		{begin(1) + "ab\xff\xfa", false, 0}, {begin(1) + "ab" + begin(2), false, 0}, {begin(1) + "ab" + begin(2) + "c", false, 1},
		{begin(1) + some(api.MaxSub-1), false, api.MaxSub - 1}, {begin(1) + some(api.MaxSub), false, api.MaxSub},
		{begin(1) + some(api.MaxSub+1), false, api.MaxSub}, {begin(1) + some(99*api.MaxSub), false, api.MaxSub},
		{begin(1) + some(api.MaxSub+1) + "\xff", false, api.MaxSub}, {begin(1) + some(api.MaxSub+1) + end, true, 0},
		{begin(1) + some(api.MaxSub+1) + begin(1) + "a", false, 1},
	}
	for _, c := range tests {
		r := &Reader{}
		r.Feed(c.fed)
		is(t, strconv.Quote(c.fed), r, c.whole, c.n)
		is(t, "asked again", r, c.whole, c.n)
		r.Feed()
		r.Feed("", "")
		is(t, "fed nothing", r, c.whole, c.n)
	}
}

// However much comes, no more than MaxSub bytes of it are kept.
func TestP802ALongSubIsNotKept(t *testing.T) {
	r := &Reader{}
	r.Feed(begin(1))
	for k := range 1000 {
		tells(t, "a long one", r, nil, some(100))
		is(t, "a long one", r, false, api.MaxSub)
		if n := cap(r.begun.text); n > 2*api.MaxSub {
			t.Fatalf("%d bytes are kept behind %d texts", n, k+1)
		}
	}
	tells(t, "its end", r, list(data("a")), end+"a")
}

// What a zero behind a 13 is hangs on Binary when it comes, and on nothing else.
func TestP802BinaryIsSetBetweenFeeds(t *testing.T) {
	for _, ahead := range []bool{false, true} {
		r := &Reader{Binary: ahead}
		tells(t, "a 13", r, list(data("a\r")), "a\r")
		r.Binary = true
		tells(t, "a zero in Binary", r, list(data("\x00\r")), "\x00\r")
		r.Binary = false
		tells(t, "a zero", r, list(data("b\r")), "\x00b\r")
		r.Binary = true
		tells(t, "no bytes", r, nil, "")
		r.Binary = false
		tells(t, "set and set back", r, list(data("\x00")), "\x00\x00")
	}
	r := &Reader{}
	tells(t, "a 13", r, list(data("\r")), "\r")
	r.Binary = true
	tells(t, "a zero in Binary", r, list(data("\x00")), "\x00")
	r.Binary = false
	tells(t, "it was no zero that goes", r, list(data("\x00")), "\x00")
}

// Binary changes nothing of what is half done but that.
func TestP802BinaryInAToken(t *testing.T) {
	fed := "\xff\xfb\x00" + begin(0) + "\r\x00\xff\xff" + end + "\xff\x00"
	want := list(option(api.WILL, 0), sub(0, "\r\x00\xff"), command(0))
	r := &Reader{}
	var l []api.Token
	for i := range len(fed) {
		l = append(l, r.Feed(fed[i:i+1])...)
		r.Binary = !r.Binary
	}
	if !slices.Equal(l, want) {
		t.Errorf("%#v, not %#v", l, want)
	}
}

// No call sets Binary itself.
func TestP802BinaryStays(t *testing.T) {
	for _, binary := range []bool{false, true} {
		r := &Reader{Binary: binary}
		r.Feed("a\r\x00", "\xff\xfb\x00\xff\xfd\x00", begin(0), end)
		if r.Whole(); r.Sub() != 0 || r.Binary != binary {
			t.Errorf("Binary was %t, and is %t", binary, r.Binary)
		}
	}
}

func TestP802NilReader(t *testing.T) {
	var r *Reader
	for range 2 {
		tells(t, "a nil one", r, nil)
		tells(t, "a nil one", r, nil, "a", "\xff\xf1", begin(1)+"ab")
		is(t, "a nil one", r, true, 0)
	}
}

func TestP802ZeroReader(t *testing.T) {
	r := new(Reader)
	is(t, "a zero one", r, true, 0)
	tells(t, "a zero one", r, list(data("a\rb")), "a\r\x00b")
}
