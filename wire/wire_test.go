package wire

import (
	"math"
	"slices"
	"strings"
	"testing"
	"unsafe"

	"pontoon/api"
	"pontoon/nvt"
)

// some is a text of n bytes that a Sub has as they are.
func some(n int) string { return strings.Repeat("s", n) }

// is tells whether a text is the one that is wanted.
func is(t *testing.T, what, got, want string) {
	t.Helper()
	if got != want {
		t.Errorf("%s: %q, not %q", what, got, want)
	}
}

// answers tells whether a call answers that text, that error.
func answers(t *testing.T, what, got string, err api.Errno, want string, wanted api.Errno) {
	t.Helper()
	if got != want || err != wanted {
		t.Errorf("%s: %q, %d, not %q, %d", what, got, err, want, wanted)
	}
}

// reads tells whether a Reader, in Binary or not, tells these tokens of a text, and has nothing half done behind it.
func reads(t *testing.T, binary bool, s string, want ...api.Token) {
	t.Helper()
	r := nvt.Reader{Binary: binary}
	if got := r.Feed(s); !slices.Equal(got, want) || !r.Whole() {
		t.Errorf("%q is read as %#v, whole %t, not %#v", s, got, r.Whole(), want)
	}
}

// model lays a whole text by replacing its parts: a 13 that has its 10 is hidden, so that all others are found.
func model(binary bool, s string) string {
	parts := strings.Split(s, "\r\n")
	for k, p := range parts {
		if !binary {
			p = strings.ReplaceAll(p, "\r", "\r\x00")
		}
		parts[k] = strings.ReplaceAll(p, "\xff", "\xff\xff")
	}
	return strings.Join(parts, "\r\n")
}

// numbers makes numbers below n that are the same each time.
func numbers(seed int) func(n int) int {
	x := uint32(seed)
	return func(n int) int {
		x = x*1664525 + 1013904223
		return int(x>>16) % n
	}
}

// joined makes a text of words of a list.
func joined(next func(n int) int, words []string) string {
	var b strings.Builder
	for range next(30) {
		b.WriteString(words[next(len(words))])
	}
	return b.String()
}

// cut cuts a text into parts, empty ones among them.
func cut(s string, next func(n int) int) []string {
	l := []string{""}
	for s != "" {
		n := min(next(4), len(s))
		l = append(l, s[:n])
		s = s[n:]
	}
	return l
}

// each calls f with each text of up to n bytes out of letters.
func each(letters string, n int, f func(s string)) {
	var more func(s string)
	more = func(s string) {
		f(s)
		for i := range len(letters) {
			if len(s) < n {
				more(s + letters[i:i+1])
			}
		}
	}
	more("")
}

// shares tells whether a text lies where another one does.
func shares(a, b string) bool {
	p, q := uintptr(unsafe.Pointer(unsafe.StringData(a))), uintptr(unsafe.Pointer(unsafe.StringData(b)))
	return a != "" && b != "" && p < q+uintptr(len(b)) && q < p+uintptr(len(a))
}

func TestP901Example(t *testing.T) {
	is(t, "the example", Data(false, "a\r", "b\r\n"), "a\r\x00b\r\n")
}

func TestP901DataOfNothing(t *testing.T) {
	for _, binary := range []bool{false, true} {
		for _, l := range [][]string{nil, {}, {""}, {"", "", ""}} {
			is(t, "nothing", Data(binary, l...), "")
		}
	}
}

func TestP901Data(t *testing.T) {
	tests := []struct {
		what          string
		l             []string
		plain, binary string
	}{
		{"other bytes", []string{"ab", "", "c\n\x00\xf0\xfe"}, "abc\n\x00\xf0\xfe", "abc\n\x00\xf0\xfe"},
		{"runes of many bytes", []string{"aä€"}, "aä€", "aä€"},
		{"a 255", []string{"a\xffb"}, "a\xff\xffb", "a\xff\xffb"},
		{"255s", []string{"\xff\xff", "\xff"}, "\xff\xff\xff\xff\xff\xff", "\xff\xff\xff\xff\xff\xff"},
		{"what looks like a command", []string{"\xff\xfd\x01"}, "\xff\xff\xfd\x01", "\xff\xff\xfd\x01"},
		{"a 13 at the end", []string{"a\r"}, "a\r\x00", "a\r"},
		{"a 13 at a text's end", []string{"a\r", "b"}, "a\r\x00b", "a\rb"},
		{"a 13 ahead of empty texts", []string{"\r", "", ""}, "\r\x00", "\r"},
		{"a line's end", []string{"\r\n"}, "\r\n", "\r\n"},
		{"a line's end in two texts", []string{"a\r", "\nb"}, "a\r\nb", "a\r\nb"},
		{"with empty texts between", []string{"\r", "", "", "\n"}, "\r\n", "\r\n"},
		{"two 13s ahead of a 10", []string{"\r\r\n"}, "\r\x00\r\n", "\r\r\n"},
		{"13s", []string{"\r\r", "\r"}, "\r\x00\r\x00\r\x00", "\r\r\r"},
		{"a 10 ahead of a 13", []string{"\n\r"}, "\n\r\x00", "\n\r"},
		{"a 10 behind another byte", []string{"\ra\n"}, "\r\x00a\n", "\ra\n"},
		{"a 13 and its own 0", []string{"\r\x00"}, "\r\x00\x00", "\r\x00"},
		{"a 13 and a 255", []string{"\r\xff"}, "\r\x00\xff\xff", "\r\xff\xff"},
		{"a 255 and a 13", []string{"\xff\r", "\xff\r\n"}, "\xff\xff\r\x00\xff\xff\r\n", "\xff\xff\r\xff\xff\r\n"},
	}
	for _, c := range tests {
		is(t, c.what, Data(false, c.l...), c.plain)
		is(t, c.what+", Binary", Data(true, c.l...), c.binary)
	}
}

func TestP901DataOfEachByte(t *testing.T) {
	for b := range 256 {
		s := text(byte(b))
		want := strings.ReplaceAll(s, "\xff", "\xff\xff")
		is(t, "in Binary", Data(true, "a", s, "b"), "a"+want+"b")
		is(t, "in Binary, behind a 13", Data(true, "\r"+s), "\r"+want)
		switch b {
		case '\r':
			is(t, "a 13", Data(false, "a", s, "b"), "a\r\x00b")
		case '\n':
			is(t, "behind a 13", Data(false, "\r"+s), "\r\n")
			is(t, "between", Data(false, "a", s, "b"), "a\nb")
		default:
			is(t, "behind a 13", Data(false, "\r"+s), "\r\x00"+want)
			is(t, "between", Data(false, "a", s, "b"), "a"+want+"b")
		}
	}
}

// What is laid hangs on all of the texts, not on where one ends and the next begins.
func TestP901DataHoweverItIsCut(t *testing.T) {
	each("\xff\r\n\x00a", 5, func(s string) {
		for _, binary := range []bool{false, true} {
			want := model(binary, s)
			is(t, "whole", Data(binary, s), want)
			is(t, "bytes", Data(binary, strings.Split(s, "")...), want)
			for k := range len(s) + 1 {
				is(t, "in two", Data(binary, s[:k], s[k:]), want)
				is(t, "in three", Data(binary, s[:k], "", s[k:]), want)
			}
		}
	})
}

func TestP901Option(t *testing.T) {
	for cmd := api.WILL; cmd <= api.DONT; cmd++ {
		for opt := range 256 {
			s, err := Option(cmd, opt)
			answers(t, "Option", s, err, text(api.IAC, byte(cmd), byte(opt)), api.OK)
			reads(t, false, s, api.Token{Kind: api.Option, Cmd: cmd, Opt: opt})
		}
	}
}

func TestP901OptionThatMayNotBe(t *testing.T) {
	for cmd := -300; cmd <= 600; cmd++ {
		if cmd < api.WILL || cmd > api.DONT {
			s, err := Option(cmd, api.Echo)
			answers(t, "the command", s, err, "", api.ErrArg)
		}
	}
	for _, n := range []int{-1, -256, 256, 257, 511, 1 << 32, 1<<32 + 1, -1 << 32, math.MinInt, math.MaxInt} {
		for cmd := api.WILL; cmd <= api.DONT; cmd++ {
			s, err := Option(cmd, n)
			answers(t, "the option", s, err, "", api.ErrArg)
		}
		s, err := Option(n, n)
		answers(t, "both", s, err, "", api.ErrArg)
	}
	for _, cmd := range []int{api.WILL + 1<<32, api.DO - 1<<32, math.MinInt, math.MaxInt} {
		s, err := Option(cmd, 0)
		answers(t, "a great command", s, err, "", api.ErrArg)
	}
}

func TestP901Sub(t *testing.T) {
	full := some(api.MaxSub)
	tests := []struct {
		what string
		opt  int
		l    []string
		text string
	}{
		{"no texts", 24, nil, ""},
		{"empty texts", 24, []string{"", ""}, ""},
		{"texts", 24, []string{"\x00", "vt", "", "100"}, "\x00vt100"},
		{"the least option", 0, []string{"a"}, "a"},
		{"the greatest option", 255, []string{"a"}, "a"},
		{"a 13 is as any other", 1, []string{"\r", "\n\r\x00\r"}, "\r\n\r\x00\r"},
		{"255s", 31, []string{"\xff", "\xff\xffa\xff"}, "\xff\xff\xffa\xff"},
		{"what looks like an end", 1, []string{"a\xff\xf0b"}, "a\xff\xf0b"},
		{"as many as may be", 1, []string{full}, full},
		{"as many in texts", 1, []string{"", full[1:], "s", ""}, full},
		{"as many 255s", 1, []string{strings.Repeat("\xff", api.MaxSub)}, strings.Repeat("\xff", api.MaxSub)},
	}
	for _, c := range tests {
		s, err := Sub(c.opt, c.l...)
		answers(t, c.what, s, err, "\xff\xfa"+text(byte(c.opt))+strings.ReplaceAll(c.text, "\xff", "\xff\xff")+"\xff\xf0", api.OK)
		for _, binary := range []bool{false, true} {
			reads(t, binary, s, api.Token{Kind: api.Sub, Opt: c.opt, Text: c.text})
		}
	}
}

func TestP901SubOfEachByte(t *testing.T) {
	for n := range 256 {
		c := text(byte(n))
		s, err := Sub(n, c, c)
		answers(t, "Sub", s, err, "\xff\xfa"+c+strings.ReplaceAll(c+c, "\xff", "\xff\xff")+"\xff\xf0", api.OK)
		reads(t, false, s, api.Token{Kind: api.Sub, Opt: n, Text: c + c})
	}
}

func TestP901SubThatMayNotBe(t *testing.T) {
	full := some(api.MaxSub)
	long := [][]string{{full + "s"}, {full, "s"}, {"s", full}, {full, "", "s"}, {some(9 * api.MaxSub)}, {full, full}, {"s", some(9 * api.MaxSub), ""},
		{strings.Repeat("\xff", api.MaxSub+1)}, strings.Split(full+"s", "")}
	for _, l := range long {
		for _, opt := range []int{0, 24, 255} {
			s, err := Sub(opt, l...)
			answers(t, "too long", s, err, "", api.ErrLong)
		}
	}
	for _, opt := range []int{-1, -256, 256, 257, 280, 1 << 32, math.MinInt, math.MaxInt} {
		for _, l := range append(long, nil, []string{"a"}) {
			s, err := Sub(opt, l...)
			answers(t, "the option, whatever the length", s, err, "", api.ErrArg)
		}
	}
}

// A call writes nothing into its list, and its answer lies elsewhere, even where it is the same text.
func TestP901AnswersAreTheirOwn(t *testing.T) {
	l := []string{"abc\xff", "", "\r"}
	held := slices.Clone(l)
	first := Data(false, l...)
	if Data(true, l...); !slices.Equal(l, held) {
		t.Errorf("Data made %q of %q", l, held)
	}
	if Sub(1, l...); !slices.Equal(l, held) {
		t.Errorf("Sub made %q of %q", l, held)
	}
	is(t, "the first answer", first, "abc\xff\xff\r\x00")
	one := strings.Clone("a text as it is")
	s, _ := Sub(1, one)
	for _, binary := range []bool{false, true} {
		for _, got := range []string{Data(binary, one), Data(binary, "", one), Plain(binary, one), s} {
			if shares(got, one) {
				t.Errorf("%q lies in what was handed in", got)
			}
		}
	}
}

func TestP902Plain(t *testing.T) {
	tests := []struct{ what, b, plain, binary string }{
		{"nothing", "", "", ""},
		{"bytes", "ab\n\x00\xfe", "ab\n\x00\xfe", "ab\n\x00\xfe"},
		{"255 twice", "a\xff\xffb", "a\xffb", "a\xffb"},
		{"a 0 behind a 13", "a\r\x00b", "a\rb", "a\r\x00b"},
		{"a line's end", "a\r\nb", "a\r\nb", "a\r\nb"},
		{"a 13 and what follows", "\ra\r", "\ra\r", "\ra\r"},
		{"only the first 0", "\r\x00\x00", "\r\x00", "\r\x00\x00"},
		{"a command between", "a\xff\xf1b", "ab", "ab"},
		{"a command behind a 13", "\r\xff\xf1\x00", "\r\x00", "\r\x00"},
		{"an option between", "a\xff\xfd\x1fb", "ab", "ab"},
		{"a Sub between", "a\xff\xfa\x18xy\xff\xff\xff\xf0b", "ab", "ab"},
		{"a long Sub", "a\xff\xfa\x18" + some(api.MaxSub+1) + "\xff\xf0b", "ab", "ab"},
		{"a Sub that is given up", "a\xff\xfa\x18xy\xff\xf1b", "ab", "ab"},
		{"no Data", "\xff\xf1\xff\xfb\x01\xff\xfa\x01x\xff\xf0", "", ""},
		{"many parts", "a\xff\xf1b\xff\xf1c\xff\xfd\x01\xff\xffd\r\x00", "abc\xffd\r", "abc\xffd\r\x00"},
		{"IAC at the end", "ab\xff", "ab", "ab"},
		{"WILL at the end", "ab\xff\xfb", "ab", "ab"},
		{"half a Sub at the end", "ab\xff\xfa\x18cd", "ab", "ab"},
	}
	for _, c := range tests {
		is(t, c.what, Plain(false, c.b), c.plain)
		is(t, c.what+", Binary", Plain(true, c.b), c.binary)
	}
}

// Whatever a text means to Telnet, Plain tells what a Reader tells of it as Data, byte by byte.
func TestP902PlainIsWhatAReaderTells(t *testing.T) {
	words := []string{"\xff", "\xff", "\xff\xff", "\xf0", "\xff\xf0", "\xff\xfa\x18", "\xfb", "\xff\xfd\x1f", "\xff\xf1", "\r", "\r\x00", "\r\n", "\x00", "a", "text", some(api.MaxSub)}
	for seed := range 2000 {
		b, binary := joined(numbers(seed), words), seed%2 == 1
		r, want := nvt.Reader{Binary: binary}, ""
		for i := range len(b) {
			for _, y := range r.Feed(b[i : i+1]) {
				if y.Kind == api.Data {
					want += y.Text
				}
			}
		}
		is(t, "Plain", Plain(binary, b), want)
	}
}

// Nothing is kept from one call to the next.
func TestP902PlainBeginsAnew(t *testing.T) {
	for _, half := range []string{"\r", "\xff", "\xff\xfb", "\xff\xfa\x18x", "\xff\xfa\x18x\xff"} {
		Plain(false, half)
		is(t, "behind what is half done", Plain(false, "\x00\xf0a"), "\x00\xf0a")
	}
}

func TestP903PlainOfData(t *testing.T) {
	each("\xff\xf0\xfa\xfb\x00\r\na", 5, func(s string) {
		for _, binary := range []bool{false, true} {
			is(t, "a short text", Plain(binary, Data(binary, s)), s)
		}
	})
	words := []string{"\xff", "\xff\xff", "\xff\xf0", "\xff\xfa\x18", "\xff\xfb\x01", "\r", "\r\x00", "\r\n", "\n", "\x00", "text", "ä", some(api.MaxSub + 1)}
	for seed := range 2000 {
		next := numbers(seed)
		s := joined(next, words)
		for _, binary := range []bool{false, true} {
			laid := Data(binary, cut(s, next)...)
			is(t, "a text", Plain(binary, laid), s)
			if s != "" {
				reads(t, binary, laid, api.Token{Kind: api.Data, Text: s})
			}
		}
	}
}

// What stands between two texts on the wire takes nothing of them, be it an option or a Sub.
func TestP903PlainOfDataAmongOthers(t *testing.T) {
	option, _ := Option(api.WILL, 255)
	sub, _ := Sub(255, "\xff\r", "\x00")
	for _, binary := range []bool{false, true} {
		each("\xff\r\n\x00a", 3, func(s string) {
			is(t, "among others", Plain(binary, option+Data(binary, s)+sub+Data(binary, "\n", s)+option), s+"\n"+s)
		})
	}
}
