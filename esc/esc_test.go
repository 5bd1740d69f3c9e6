package esc

import (
	"go/ast"
	"go/parser"
	"go/token"
	"path/filepath"
	"reflect"
	"regexp"
	"slices"
	"strconv"
	"strings"
	"sync"
	"testing"
	"unicode/utf8"
	"unsafe"

	"pontoon/api"
	"pontoon/utf"
)

func printOf(s string) []api.Act {
	var l []api.Act
	for _, r := range s {
		l = append(l, api.Act{Kind: api.Print, Rune: r})
	}
	return l
}

func controlOf(b byte) api.Act { return api.Act{Kind: api.Control, Byte: int(b)} }

func escapeOf(inter string, b byte) api.Act {
	return api.Act{Kind: api.Escape, Inter: inter, Byte: int(b)}
}

func csiOf(mark byte, inter string, b byte, nums ...int) api.Act {
	return api.Act{Kind: api.Csi, Mark: int(mark), Nums: nums, Inter: inter, Byte: int(b)}
}

func oscOf(s string) api.Act { return api.Act{Kind: api.Osc, Text: s} }
func dcsOf(s string) api.Act { return api.Act{Kind: api.Dcs, Text: s} }

// list puts acts, and lists of them, one behind the other.
func list(l ...any) []api.Act {
	var out []api.Act
	for _, x := range l {
		switch a := x.(type) {
		case api.Act:
			out = append(out, a)
		case []api.Act:
			out = append(out, a...)
		}
	}
	return out
}

func some(n int) string { return strings.Repeat("s", n) }

// bytesOf makes a text of numbers.
func bytesOf(l ...byte) string { return string(l) }

func equal(a, b api.Act) bool {
	nums := slices.Equal(a.Nums, b.Nums)
	a.Nums, b.Nums = nil, nil
	return nums && reflect.DeepEqual(a, b)
}

func same(a, b []api.Act) bool { return slices.EqualFunc(a, b, equal) }

// tells tells whether a Feed answers that.
func tells(t *testing.T, what string, p *Parser, want []api.Act, l ...string) {
	t.Helper()
	if got := p.Feed(l...); !same(got, want) {
		t.Errorf("%s: Feed(%+q) is %+v, not %+v", what, l, got, want)
	}
}

// is tells what Ground and Kept answer.
func is(t *testing.T, what string, p *Parser, ground bool, kept int) {
	t.Helper()
	if g, k := p.Ground(), p.Kept(); g != ground || k != kept {
		t.Errorf("%s: Ground is %t, Kept %d, not %t, %d", what, g, k, ground, kept)
	}
}

// fed is a Parser that was fed something.
func fed(s string) *Parser {
	p := &Parser{}
	p.Feed(s)
	return p
}

// model cuts a whole text, by its parts and not byte by byte: a sequence is found whole, and held against what it may be.
type model struct {
	rest string
	out  []api.Act
	half string // of the text: what of a sequence, or a rune, is not whole
}

func (m *model) tell(a ...api.Act) { m.out = append(m.out, a...) }

func run(s string) *model {
	m := &model{rest: s}
	for m.rest != "" {
		switch b := m.rest[0]; {
		case b == 27:
			m.rest = m.rest[1:]
			m.half = "\x1b"
			m.sequence()
		case b < 32:
			m.rest = m.rest[1:]
			if b != 24 && b != 26 {
				m.tell(controlOf(b))
			}
		case b == 127:
			m.rest = m.rest[1:]
		default:
			m.print()
		}
	}
	return m
}

// print tells the runes up to the next byte that is none of theirs.
func (m *model) print() {
	n := strings.IndexFunc(m.rest, func(r rune) bool { return r < 32 || r == 127 })
	if n < 0 {
		n = len(m.rest)
	}
	r := &utf.Reader{}
	for _, c := range r.Feed(m.rest[:n]) {
		m.tell(api.Act{Kind: api.Print, Rune: c})
	}
	if n == len(m.rest) {
		m.half = m.rest[n-r.Half():]
	} else {
		m.tell(printOf(strings.Repeat("\ufffd", len(r.Flush())))...)
	}
	m.rest = m.rest[n:]
}

var (
	wholeEscape = regexp.MustCompile(`^[ -/]+[0-~]$|^[0-OQ-Z\\^-~]$`)
	wholeCsi    = regexp.MustCompile(`^\[[ -?]*[@-~]$`)
	rightEscape = regexp.MustCompile(`^([ -/]{0,2})([0-~])$`)
	rightCsi    = regexp.MustCompile(`^\[([<=>?]?)([0-9;]*)([ -/]{0,2})([@-~])$`)
)

// sequence tells what stands behind a 27.
func (m *model) sequence() {
	body := ""
	for m.rest != "" {
		b := m.rest[0]
		if b == 24 || b == 26 || b == 27 || b >= 128 {
			m.half = ""
			return
		}
		m.rest = m.rest[1:]
		switch {
		case b < 32:
			m.tell(controlOf(b))
			continue
		case b == 127:
			continue
		}
		body += bytesOf(b)
		m.half = "\x1b" + body
		switch {
		case body == "]" || body == "P":
			m.str(body)
			return
		case wholeEscape.MatchString(body) || wholeCsi.MatchString(body):
			m.whole(body)
			m.half = ""
			return
		}
	}
}

func (m *model) whole(body string) {
	if f := rightEscape.FindStringSubmatch(body); f != nil {
		m.tell(escapeOf(f[1], f[2][0]))
		return
	}
	f := rightCsi.FindStringSubmatch(body)
	if f == nil {
		return
	}
	mark := byte(0)
	if f[1] != "" {
		mark = f[1][0]
	}
	m.tell(csiOf(mark, f[3], f[4][0], numbersOf(f[2])...))
}

func numbersOf(s string) []int {
	if s == "" {
		return nil
	}
	var l []int
	for _, d := range strings.Split(s, ";") {
		n, err := strconv.Atoi(d)
		switch {
		case d == "":
			n = -1
		case err != nil: // none but those that are too long for an int
			n = api.MaxNumber
		}
		l = append(l, min(n, api.MaxNumber))
	}
	return l[:min(len(l), api.MaxParams)]
}

// str tells an osc, a dcs.
func (m *model) str(kind string) {
	ends := "\x18\x1a\x1b"
	if kind == "]" {
		ends += "\x07"
	}
	n := strings.IndexAny(m.rest, ends)
	text := m.rest
	if n >= 0 {
		text = m.rest[:n]
	}
	text = string(slices.DeleteFunc([]byte(text), func(b byte) bool { return b < 32 }))
	text = text[:min(len(text), api.MaxStr)]
	if n < 0 {
		m.rest, m.half = "", "\x1b"+kind+text
		return
	}
	b := m.rest[n]
	m.half = ""
	if b != 27 {
		m.rest = m.rest[n+1:]
	} else {
		m.rest = m.rest[n:]
	}
	switch {
	case b == 24 || b == 26:
	case kind == "]":
		m.tell(oscOf(text))
	default:
		m.tell(dcsOf(text))
	}
}

// kept tells how many bytes are kept of a sequence that is not wrong, or of a rune.
func (m *model) kept() int {
	switch {
	case !strings.HasPrefix(m.half, "\x1b"):
		return len(m.half)
	case strings.HasPrefix(m.half, "\x1b["):
		body := strings.TrimLeft(m.half[2:], "<=>?")
		inter := strings.TrimLeft(body, "0123456789;")
		return len(numbersOf(body[:len(body)-len(inter)])) + len(inter)
	case strings.HasPrefix(m.half, "\x1b]"), strings.HasPrefix(m.half, "\x1bP"):
		return len(m.half) - 2
	}
	return len(m.half) - 1
}

// wrong tells whether what is half read may say nothing any more.
func (m *model) wrong() bool {
	switch {
	case strings.HasPrefix(m.half, "\x1b["):
		return !rightCsi.MatchString(m.half[1:] + "@")
	case strings.HasPrefix(m.half, "\x1b]"), strings.HasPrefix(m.half, "\x1bP"), !strings.HasPrefix(m.half, "\x1b"):
		return false
	}
	return !rightEscape.MatchString(m.half[1:] + "0")
}

// holds tells whether a Parser that was fed a text stands as the model does.
func holds(t *testing.T, s string, p *Parser, got []api.Act) {
	t.Helper()
	m := run(s)
	if !same(got, m.out) {
		t.Fatalf("%+q: %+v, not %+v", s, got, m.out)
	}
	if p.Ground() != (m.half == "") {
		t.Fatalf("%+q: Ground is %t, and half read is %+q", s, p.Ground(), m.half)
	}
	if k := p.Kept(); !m.wrong() && k != m.kept() || k > api.MaxStr+16 {
		t.Fatalf("%+q: Kept is %d, not %d", s, k, m.kept())
	}
}

// randoms makes numbers below n that are the same each time.
func randoms(seed int) func(n int) int {
	x := uint32(seed)
	return func(n int) int {
		x = x*1664525 + 1013904223
		return int(x>>16) % n
	}
}

// stream makes a text of which much means something to a terminal.
func stream(next func(n int) int, parts int) string {
	words := []string{"\x1b", "\x1b", "\x1b[", "\x1b[", "\x1b[", "\x1b]", "\x1bP", "\x1b\\", "\x1b(", "\x1b7", "[", "]", "P", "\\",
		"0", "1", "25", "9999", "10000", "99999999999999999999", ";", ";", ";;", "1;2;3;4;5;6;7", ":", "?", ">", " ", "!", "$\"", "/",
		"H", "m", "h", "@", "~", "a", "text", "\x7f", "\x07", "\x00", "\n", "\x18", "\x1a", "\x1f", "\xc3\xa9", "\xe2\x82\xac", "\xe2\x82", "\xf0\x9f", "\xff", "\x80",
		some(api.MaxStr - 2), some(3)}
	var b strings.Builder
	for range parts {
		b.WriteString(words[next(len(words))])
	}
	return b.String()
}

// cut cuts a text into parts, empty ones among them.
func cut(s string, next func(n int) int) []string {
	var l []string
	for s != "" {
		n := min(next(6), len(s))
		l = append(l, s[:n])
		s = s[n:]
	}
	return l
}

// texts goes through all texts of n of the letters.
func texts(letters string, n int, each func(s string)) {
	var all func(s string)
	all = func(s string) {
		if len(s) == n {
			each(s)
			return
		}
		for i := range len(letters) {
			all(s + letters[i:i+1])
		}
	}
	all("")
}

// begunTexts lead to each place where a Parser may stand, and what it keeps there.
var begunTexts = []struct {
	fed  string
	kept int
}{
	{"", 0}, {"\x1b", 0}, {"\x1b(", 1}, {"\x1b()", 2},
	{"\x1b[", 0}, {"\x1b[?", 0}, {"\x1b[1", 1}, {"\x1b[?1;2", 2}, {"\x1b[;", 2}, {"\x1b[!", 1}, {"\x1b[1;2!\"", 4},
	{"\x1b]", 0}, {"\x1b]ab", 2}, {"\x1bP", 0}, {"\x1bPab", 2}, {"\x1b]" + some(api.MaxStr), api.MaxStr},
}

// edges are the bytes at which it turns what a byte is.
const edges = "\x00\x06\x07\x08\x17\x18\x19\x1a\x1b\x1c\x1f /09:;<?@APQZ[\\]^~\x7f\x80\xbf\xc2\xe0\xf0\xff"

// wrongTexts are those of which nothing is told up to their end.
var wrongTexts = []string{"\x1b(()", "\x1b((((((", "\x1b[:", "\x1b[1:", "\x1b[?:", "\x1b[1?", "\x1b[??", "\x1b[;<", "\x1b[!!!", "\x1b[!1", "\x1b[!;", "\x1b[!:", "\x1b[!=", "\x1b[!!9", "\x1b[!!;", "\x1b[1!2;3?"}

func inString(s string) bool {
	return strings.HasPrefix(s, "\x1b]") || strings.HasPrefix(s, "\x1bP")
}

// ahead is what a 27 ends.
func ahead(s string) []api.Act {
	switch {
	case strings.HasPrefix(s, "\x1b]"):
		return list(oscOf(s[2:]))
	case strings.HasPrefix(s, "\x1bP"):
		return list(dcsOf(s[2:]))
	}
	return nil
}

func TestP1301Example(t *testing.T) {
	tells(t, "the example", &Parser{}, list(printOf("a"), csiOf(0, "", 'H', 1, 2), printOf("b")), "a\x1b[1;", "2Hb")
}

func TestP1301Nothing(t *testing.T) {
	for _, c := range begunTexts {
		p := fed(c.fed)
		for _, l := range [][]string{nil, {}, {""}, {"", "", ""}} {
			tells(t, "nothing", p, nil, l...)
			is(t, "nothing", p, c.fed == "", c.kept)
		}
	}
}

func TestP1301GivenUp(t *testing.T) {
	for _, c := range begunTexts {
		for _, b := range []string{"\x18", "\x1a"} {
			p := fed(c.fed)
			tells(t, c.fed, p, nil, b)
			is(t, c.fed, p, true, 0)
			tells(t, c.fed+", behind it", p, printOf("1;?!(P[]\\"), "1;?!(P[]\\")
		}
	}
	for _, s := range wrongTexts {
		p := fed(s)
		tells(t, s, p, printOf("A"), "\x18A")
		is(t, s, p, true, 0)
	}
}

func TestP1301BegunAnew(t *testing.T) {
	for _, c := range begunTexts {
		p := fed(c.fed)
		tells(t, c.fed, p, ahead(c.fed), "\x1b")
		is(t, c.fed, p, false, 0)
		tells(t, c.fed+", a csi", p, list(csiOf(0, "", 'm')), "[m")
		p = fed(c.fed)
		tells(t, c.fed+", at once", p, list(ahead(c.fed), escapeOf("", 'M'), escapeOf(")", '0')), "\x1bM\x1b)0")
		is(t, c.fed, p, true, 0)
	}
	for _, s := range wrongTexts {
		tells(t, s, fed(s), list(escapeOf("*", 'B'), csiOf('?', "!", 'm', 3)), "\x1b*B\x1b[?3!m")
	}
	tells(t, "many of them", &Parser{}, list(escapeOf("", '7')), "\x1b\x1b\x1b\x1b7")
}

func TestP1301EachControl(t *testing.T) {
	for b := byte(0); b < 32; b++ {
		if b == 24 || b == 26 || b == 27 {
			continue
		}
		for _, c := range begunTexts {
			p, s := fed(c.fed), bytesOf(b)
			switch {
			case strings.HasPrefix(c.fed, "\x1b]") && b == 7:
				tells(t, c.fed, p, list(oscOf(c.fed[2:])), s)
				is(t, c.fed, p, true, 0)
			case inString(c.fed):
				tells(t, c.fed, p, nil, s)
				is(t, c.fed, p, false, c.kept)
			default:
				tells(t, c.fed, p, list(controlOf(b)), s)
				is(t, c.fed, p, c.fed == "", c.kept)
			}
		}
	}
}

// A Control between changes nothing of what is begun, wherever it stands.
func TestP1301ControlsBetween(t *testing.T) {
	for _, s := range []string{"\x1b7", "\x1b(0", "\x1b()0", "\x1b[H", "\x1b[?25;7h", "\x1b[1;2H", "\x1b[>1!p", "\x1b[;!\"p"} {
		want := (&Parser{}).Feed(s)
		for i := 1; i < len(s); i++ {
			tells(t, "a Control in "+s, &Parser{}, append(list(controlOf(10), controlOf(0)), want...), s[:i]+"\n\x00"+s[i:])
			tells(t, "127 in "+s, &Parser{}, want, s[:i]+"\x7f\x7f"+s[i:])
		}
	}
}

// The chapter says of every csi and escape that a Control is told; only what is wrong itself says nothing.
func TestP1301ControlsInWhatIsWrong(t *testing.T) {
	for _, s := range wrongTexts {
		tells(t, s, fed(s), list(controlOf(10), controlOf(7), printOf("B")), "\n\x7f\x07@B")
	}
}

func TestP1301Each127(t *testing.T) {
	for _, c := range begunTexts {
		p, more := fed(c.fed), 0
		if inString(c.fed) && c.kept < api.MaxStr {
			more = 1
		}
		tells(t, c.fed, p, nil, "\x7f")
		is(t, c.fed, p, c.fed == "", c.kept+more)
	}
	tells(t, "in an osc", &Parser{}, list(oscOf("a\x7fb\x7f")), "\x1b]a\x7fb\x7f\x07")
	tells(t, "in a dcs", &Parser{}, list(dcsOf("\x7fa\x7f")), "\x1bP\x7fa\x7f\x1b")
}

func TestP1302EachByte(t *testing.T) {
	for b := 32; b < 256; b++ {
		r, p, s := &utf.Reader{}, &Parser{}, bytesOf(byte(b))
		if b == 127 {
			continue
		}
		tells(t, "a byte", p, list(printOf(string(r.Feed(s)))), s)
		is(t, "a byte", p, r.Half() == 0, r.Half())
	}
}

func TestP1302Runes(t *testing.T) {
	const s = " ~a\u0080\u00e9\u009b\u20ac\U0001f600\ufffd\U0010ffff"
	p := &Parser{}
	tells(t, "runes", p, printOf(s), s)
	for i := range len(s) {
		want := ""
		if i+1 == len(s) || utf8.RuneStart(s[i+1]) {
			r, _ := utf8.DecodeLastRuneInString(s[:i+1])
			want = string(r)
		}
		tells(t, "their bytes", p, printOf(want), s[i:i+1])
	}
	is(t, "runes", p, true, 0)
	tells(t, "what is none", p, printOf("\ufffd\ufffda\ufffd\u20ac"), "\xff\x80a\xe2\xe2\x82\xac")
}

// Whatever stands behind half a rune ends it, ahead of its own act.
func TestP1302HalfARuneIsFlushed(t *testing.T) {
	for _, h := range []string{"\xc3", "\xe2", "\xe2\x82", "\xf0\x9f", "\xf0\x9f\x98"} {
		for b := range 128 {
			p, s := fed("x"+h), bytesOf(byte(b))
			is(t, "half a rune", p, false, len(h))
			bad := printOf("\ufffd")
			switch {
			case b == 24 || b == 26 || b == 127:
				tells(t, "it says nothing", p, bad, s)
				is(t, "it says nothing", p, true, 0)
			case b == 27:
				tells(t, "27", p, bad, s)
				is(t, "27", p, false, 0)
				tells(t, "behind 27", p, list(escapeOf("", 'M'), printOf("\ufffdz")), "M\xacz")
			case b < 32:
				tells(t, "a Control", p, append(bad, controlOf(byte(b))), s)
				is(t, "a Control", p, true, 0)
			default:
				tells(t, "a rune", p, append(bad, printOf(s)...), s)
				is(t, "a rune", p, true, 0)
			}
		}
		tells(t, "what would have gone on", &Parser{}, append(printOf("\ufffd"), printOf("\ufffd")...), h+"\x7f\xac")
	}
}

func TestP1303EachByte(t *testing.T) {
	for _, inter := range []string{"", " ", "/", "()", "# "} {
		for b := 32; b < 256; b++ {
			p, s := fed("\x1b"+inter), bytesOf(byte(b))
			switch {
			case b < 48:
				tells(t, "an Inter", p, nil, s)
				if len(inter) < 2 {
					is(t, "an Inter", p, false, len(inter)+1)
					tells(t, "its end", p, list(escapeOf(inter+s, '0')), "0")
				} else {
					tells(t, "one more than two", p, printOf("a"), "0a")
				}
			case b == 127:
				tells(t, "127", p, nil, s)
				is(t, "127", p, false, len(inter))
			case b >= 128:
				r := &utf.Reader{}
				tells(t, "in ground", p, printOf(string(r.Feed(s))), s)
				is(t, "in ground", p, r.Half() == 0, r.Half())
			case inter == "" && (b == '[' || b == ']' || b == 'P'):
				tells(t, "a beginning", p, nil, s)
				is(t, "a beginning", p, false, 0)
			default:
				tells(t, "an end", p, list(escapeOf(inter, byte(b))), s)
				is(t, "an end", p, true, 0)
				tells(t, "behind it", p, printOf("a1"), "a1")
			}
		}
	}
}

func TestP1303Beginnings(t *testing.T) {
	tells(t, "a csi", &Parser{}, list(csiOf(0, "", 'A')), "\x1b[A")
	tells(t, "an osc", &Parser{}, list(oscOf("A")), "\x1b]A\x07")
	tells(t, "a dcs", &Parser{}, list(dcsOf("A")), "\x1bPA\x1b")
	for _, b := range []byte("[]P") {
		tells(t, "behind an Inter", &Parser{}, list(escapeOf("(", b), printOf("A"), controlOf(7)), "\x1b("+bytesOf(b)+"A\x07")
		tells(t, "behind two", &Parser{}, list(escapeOf("( ", b), printOf("A")), "\x1b( "+bytesOf(b)+"A")
		tells(t, "behind three", &Parser{}, printOf("A"), "\x1b( )"+bytesOf(b)+"A")
	}
}

// What has more than two says nothing up to its end, whatever that is.
func TestP1303MoreThanTwo(t *testing.T) {
	for _, s := range []string{"\x1b   ", "\x1b()*+", "\x1b" + strings.Repeat("/", 1000)} {
		for b := 48; b < 127; b++ {
			p := fed(s)
			tells(t, "its end", p, nil, bytesOf(byte(b)))
			is(t, "its end", p, true, 0)
			tells(t, "the next one", p, list(escapeOf("(", 'B')), "\x1b(B")
		}
		tells(t, "a rune", fed(s), printOf("\u00e9(B"), "\u00e9(B")
		tells(t, "no rune", fed(s), printOf("\ufffda"), "\xffa")
	}
}

func TestP1303AnEscapeIsNotPartOfTheNext(t *testing.T) {
	p := &Parser{}
	tells(t, "two", p, list(escapeOf("(", '0'), escapeOf("", '7'), escapeOf(")#", 'B'), csiOf(0, "", 'm')), "\x1b(0\x1b7\x1b)#B\x1b[m")
	tells(t, "given up", p, list(escapeOf("", '8')), "\x1b()\x1b8")
	tells(t, "given up by a rune", p, list(printOf("\u00e9"), escapeOf("", '8')), "\x1b(\u00e9\x1b8")
}

func TestP1304Numbers(t *testing.T) {
	tests := []struct {
		fed  string
		want []int
	}{
		{"", nil}, {"0", []int{0}}, {"00", []int{0}}, {"7", []int{7}}, {"007", []int{7}}, {"12", []int{12}}, {"0123456789", []int{9999}}, {"6789", []int{6789}},
		{";", []int{-1, -1}}, {";;", []int{-1, -1, -1}}, {"1;", []int{1, -1}}, {";1", []int{-1, 1}}, {"1;2", []int{1, 2}}, {"1;;3", []int{1, -1, 3}}, {";0;", []int{-1, 0, -1}},
		{"9998", []int{9998}}, {"9999", []int{9999}}, {"10000", []int{9999}}, {"99990", []int{9999}}, {"00009999", []int{9999}}, {"123456", []int{9999}}, {"10001;10", []int{9999, 10}},
		{strings.Repeat("9", 100), []int{9999}}, {"18446744073709551617", []int{9999}}, {"9223372036854775808;4294967297", []int{9999, 9999}},
		{"1;2;3;4;5;6;7", []int{1, 2, 3, 4, 5, 6, 7}}, {"1;2;3;4;5;6;7;8", []int{1, 2, 3, 4, 5, 6, 7, 8}}, {"1;2;3;4;5;6;7;", []int{1, 2, 3, 4, 5, 6, 7, -1}},
		{"1;2;3;4;5;6;7;8;", []int{1, 2, 3, 4, 5, 6, 7, 8}}, {"1;2;3;4;5;6;7;8;9", []int{1, 2, 3, 4, 5, 6, 7, 8}}, {"1;2;3;4;5;6;7;8;9;10;11", []int{1, 2, 3, 4, 5, 6, 7, 8}},
		{";;;;;;;", slices.Repeat([]int{-1}, 8)}, {";;;;;;;;", slices.Repeat([]int{-1}, 8)}, {strings.Repeat(";", 999) + "5", slices.Repeat([]int{-1}, 8)}, {";;;;;;;3;4", append(slices.Repeat([]int{-1}, 7), 3)},
	}
	for _, c := range tests {
		for _, mark := range []string{"", "?"} {
			for _, inter := range []string{"", "!", "\"/"} {
				m := byte(0)
				if mark != "" {
					m = mark[0]
				}
				p := &Parser{}
				tells(t, "numbers", p, list(csiOf(m, inter, 'm', c.want...), printOf("1;")), "\x1b["+mark+c.fed+inter+"m1;")
				tells(t, "the next one", p, list(csiOf(0, "", 'm')), "\x1b[m")
			}
		}
	}
	if api.MaxParams != 8 || api.MaxNumber != 9999 {
		t.Error("the tests are of other limits")
	}
}

func TestP1304EachFirstByte(t *testing.T) {
	for b := 32; b < 256; b++ {
		p, s := &Parser{}, bytesOf(byte(b))
		feed := "\x1b[" + s
		switch {
		case b < 48:
			tells(t, "an Inter", p, list(csiOf(0, s, '@')), feed+"@")
		case b < 58:
			tells(t, "a digit", p, list(csiOf(0, "", '@', b-48)), feed+"@")
		case b == 58:
			tells(t, "58", p, printOf("a"), feed+"@a")
		case b == 59:
			tells(t, "59", p, list(csiOf(0, "", '@', -1, -1)), feed+"@")
		case b < 64:
			tells(t, "a Mark", p, list(csiOf(byte(b), "", '@')), feed+"@")
		case b < 127:
			tells(t, "an end", p, list(csiOf(0, "", byte(b)), printOf("@")), feed+"@")
		case b == 127:
			tells(t, "127", p, list(csiOf(0, "", '@')), feed+"@")
		default:
			r := &utf.Reader{}
			tells(t, "in ground", p, printOf(string(r.Feed(s+"@"))), feed+"@")
		}
		is(t, "all of it", p, true, 0)
	}
}

// Each byte behind what stands ahead of it, by the chapter's own words of what is wrong.
func TestP1304EachFurtherByte(t *testing.T) {
	for _, c := range []struct {
		fed, inter string
		mark       byte
		nums       []int
	}{
		{"?", "", '?', nil}, {"1", "", 0, []int{1}}, {"<;", "", '<', []int{-1, -1}}, {"!", "!", 0, nil}, {">2!", "!", '>', []int{2}}, {"\"!", "\"!", 0, nil}, {"=1;2 /", " /", '=', []int{1, 2}},
	} {
		for b := 32; b < 128; b++ {
			p, s := fed("\x1b["+c.fed), bytesOf(byte(b))
			digit, more := b >= 48 && b < 58, b == 59
			wrong := b == 58 || b >= 60 && b < 64 || c.inter != "" && (digit || more) || len(c.inter) == 2 && b < 48
			switch {
			case wrong:
				tells(t, "wrong", p, printOf("a"), s+"@a")
			case b < 48:
				tells(t, "an Inter", p, list(csiOf(c.mark, c.inter+s, '~', c.nums...)), s+"~")
			case digit && len(c.nums) == 0:
				tells(t, "a digit", p, list(csiOf(c.mark, "", '~', b-48)), s+"~")
			case digit:
				l := slices.Clone(c.nums)
				l[len(l)-1] = max(l[len(l)-1], 0)*10 + b - 48
				tells(t, "a further digit", p, list(csiOf(c.mark, "", '~', l...)), s+"~")
			case more && len(c.nums) == 0:
				tells(t, "59", p, list(csiOf(c.mark, "", '~', -1, -1)), s+"~")
			case more:
				tells(t, "59", p, list(csiOf(c.mark, "", '~', append(slices.Clone(c.nums), -1)...)), s+"~")
			case b == 127:
				tells(t, "127", p, list(csiOf(c.mark, c.inter, '~', c.nums...)), s+"~")
			default:
				tells(t, "an end", p, list(csiOf(c.mark, c.inter, byte(b), c.nums...), printOf("~")), s+"~")
			}
			is(t, "all of it", p, true, 0)
		}
	}
}

// What is wrong stays so up to the end, whatever right bytes come, and not beyond.
func TestP1304Wrong(t *testing.T) {
	for _, s := range wrongTexts {
		if !strings.HasPrefix(s, "\x1b[") {
			continue
		}
		for b := 64; b < 127; b++ {
			p := fed(s)
			tells(t, "its end", p, nil, bytesOf(byte(b)))
			is(t, "its end", p, true, 0)
			tells(t, "the next one", p, list(csiOf('?', "", 'h', 1)), "\x1b[?1h")
		}
		for b := 32; b < 64; b++ {
			p := fed(s)
			tells(t, "further bytes", p, nil, bytesOf(byte(b), byte(b)))
			is(t, "further bytes", p, false, p.Kept())
			tells(t, "the end behind them", p, printOf("a"), "ma")
		}
		tells(t, "a rune", fed(s), printOf("\u00e91m"), "\u00e91m")
	}
}

// The Mark is the first byte, but for Controls and 127s.
func TestP1304Mark(t *testing.T) {
	for _, m := range []byte("<=>?") {
		tells(t, "first", &Parser{}, list(csiOf(m, "", 'h', 5)), "\x1b["+bytesOf(m)+"5h")
		tells(t, "behind a Control", &Parser{}, list(controlOf(13), controlOf(7), csiOf(m, "", 'h', 5)), "\x1b[\r\x7f\x07"+bytesOf(m)+"5h")
		tells(t, "behind a digit", &Parser{}, nil, "\x1b[5"+bytesOf(m)+"h")
		tells(t, "behind a 59", &Parser{}, nil, "\x1b[;"+bytesOf(m)+"h")
		tells(t, "behind an Inter", &Parser{}, nil, "\x1b[ "+bytesOf(m)+"h")
		tells(t, "behind a Mark", &Parser{}, nil, "\x1b[?"+bytesOf(m)+"h")
		tells(t, "behind a Mark and a Control", &Parser{}, list(controlOf(10)), "\x1b[?\n"+bytesOf(m)+"h")
		tells(t, "in an escape", &Parser{}, list(escapeOf("", m), printOf("5h")), "\x1b"+bytesOf(m)+"5h")
	}
}

func TestP1304ACsiIsNotPartOfTheNext(t *testing.T) {
	p := &Parser{}
	tells(t, "two", p, list(csiOf('?', "!", 'h', 1, 2), csiOf(0, "", 'm'), escapeOf("", '7')), "\x1b[?1;2!h\x1b[m\x1b7")
	tells(t, "given up", p, list(csiOf(0, "", 'm'), csiOf(0, "", 'm')), "\x1b[?1;2!\x1b[m\x1b[?1;2!\x18\x1b[m")
	tells(t, "given up by a rune", p, list(printOf("\u00e9"), csiOf(0, "", 'm')), "\x1b[?1;2!\u00e9\x1b[m")
}

func TestP1305EachByte(t *testing.T) {
	for b := range 256 {
		s := bytesOf(byte(b))
		for _, c := range []string{"]", "P"} {
			p, text := fed("\x1b"+c+"a"), "a"
			if b >= 32 {
				text += s
			}
			whole := oscOf
			if c == "P" {
				whole = dcsOf
			}
			switch {
			case b == 24 || b == 26:
				tells(t, "given up", p, nil, s)
				is(t, "given up", p, true, 0)
			case b == 27 || b == 7 && c == "]":
				tells(t, "an end", p, list(whole("a")), s)
				is(t, "an end", p, b == 7, 0)
			default:
				tells(t, "a byte", p, nil, s)
				is(t, "a byte", p, false, len(text))
				tells(t, "its end", p, list(whole(text+"z")), "z\x1b")
			}
		}
	}
}

// Bytes are no runes there, and are told as they are.
func TestP1305Bytes(t *testing.T) {
	const text = "0;\x7f\xc3\xe2\x82\xff\x80\xc3\xa9[1m"
	tells(t, "an osc", &Parser{}, list(oscOf(text)), "\x1b]"+text+"\x07")
	tells(t, "a dcs", &Parser{}, list(dcsOf(text)), "\x1bP"+text+"\x1b")
	tells(t, "with others between", &Parser{}, list(oscOf("abc")), "\x1b]\x00a\n\rb\x1fc\x1c\x07")
	tells(t, "a 7 in a dcs", &Parser{}, list(dcsOf("abc")), "\x1bP\x07a\x07b\x00c\x07\x1b")
	tells(t, "none", &Parser{}, list(oscOf(""), dcsOf(""), oscOf("")), "\x1b]\x07\x1bP\x1b]\x1b")
}

func TestP1305MaxStr(t *testing.T) {
	for _, n := range []int{0, 1, api.MaxStr - 1, api.MaxStr, api.MaxStr + 1, api.MaxStr + 17, 10_000} {
		want := some(min(n, api.MaxStr))
		tells(t, "an osc", &Parser{}, list(oscOf(want), printOf("a")), "\x1b]"+some(n)+"\x07a")
		tells(t, "a dcs", &Parser{}, list(dcsOf(want), escapeOf("", '\\')), "\x1bP"+some(n)+"\x1b\\")
	}
	tells(t, "the first ones", &Parser{}, list(oscOf("ab"+some(api.MaxStr-2))), "\x1b]a\n\x00b"+some(api.MaxStr-2)+"yz\x07")
	tells(t, "of each its own", &Parser{}, list(oscOf(some(api.MaxStr)), oscOf("b"), dcsOf("c")), "\x1b]"+some(99)+"\x1b]b\x07\x1bPc\x1b")
	tells(t, "one that was given up", &Parser{}, list(oscOf("b")), "\x1b]"+some(99)+"\x18\x1b]b\x07")
}

// The end is that of the osc alone: what stands behind it is read as ever.
func TestP1305Ends(t *testing.T) {
	tells(t, "ST", &Parser{}, list(oscOf("a"), escapeOf("", '\\'), printOf("b")), "\x1b]a\x1b\\b")
	tells(t, "another escape", &Parser{}, list(oscOf("a"), escapeOf("(", '0')), "\x1b]a\x1b(0")
	tells(t, "a csi", &Parser{}, list(dcsOf("a"), csiOf(0, "", 'm', 1)), "\x1bPa\x1b[1m")
	tells(t, "one behind the other", &Parser{}, list(dcsOf("a"), oscOf("b"), oscOf("c"), printOf("d")), "\x1bPa\x1b]b\x1b]c\x07d")
	tells(t, "7 behind it", &Parser{}, list(oscOf("a"), controlOf(7)), "\x1b]a\x07\x07")
	tells(t, "27 that is given up", &Parser{}, list(oscOf("a"), printOf("b")), "\x1b]a\x1b\x18b")
}

func TestP1306GroundAndKept(t *testing.T) {
	for _, c := range begunTexts {
		p := fed(c.fed)
		is(t, c.fed, p, c.fed == "", c.kept)
		is(t, c.fed+", asked again", p, c.fed == "", c.kept)
	}
	tests := []struct {
		fed    string
		ground bool
		kept   int
	}{
		{"a", true, 0}, {"\n", true, 0}, {"\x7f", true, 0}, {"\xff", true, 0}, {"\xc3", false, 1}, {"\xe2\x82", false, 2}, {"\xf0\x9f\x98", false, 3}, {"\xe2\x82\xac", true, 0}, {"\xe2\x82a", true, 0}, {"\xe2\xe2", false, 1},
		{"\xe2\x1b", false, 0}, {"\xe2\x82\x18", true, 0}, {"\x1b\xe2\x82", false, 2}, {"\x1b[1;2\xe2\x82", false, 2}, {"\x1b(\xc3", false, 1}, {"\x1b((()\xf0\x9f", false, 2},
		{"\x1b7", true, 0}, {"\x1b(0", true, 0}, {"\x1b[m", true, 0}, {"\x1b[1;2!m", true, 0}, {"\x1b]a\x07", true, 0}, {"\x1b]a\x1b", false, 0}, {"\x1bPa\x1b", false, 0}, {"\x1bPa\x1b\\", true, 0}, {"\x1b[:m", true, 0}, {"\x1b(((B", true, 0},
		{"\x1b[12345", false, 1}, {"\x1b[1;", false, 2}, {"\x1b[1;2;3;4;5;6;7;8", false, 8}, {"\x1b[1;2;3;4;5;6;7;8;", false, 8}, {"\x1b[?" + strings.Repeat("1;", 999), false, 8}, {"\x1b[?" + strings.Repeat("1;", 999) + "!!", false, 10},
		{"\x1b]" + some(api.MaxStr+1), false, api.MaxStr}, {"\x1bP" + some(9999), false, api.MaxStr}, {"\x1b]a\nb", false, 2}, {"\x1b]a\x18", true, 0}, {"\x1b[1\x1a", true, 0},
	}
	for _, c := range tests {
		is(t, strconv.QuoteToASCII(c.fed), fed(c.fed), c.ground, c.kept)
	}
	for _, s := range wrongTexts {
		p := fed(s)
		if p.Ground() || p.Kept() > api.MaxParams+2 {
			t.Errorf("%q: %t, %d", s, p.Ground(), p.Kept())
		}
	}
}

// However much comes, no more is kept than the limits need.
func TestP1306LittleIsKept(t *testing.T) {
	if n, m := unsafe.Sizeof(Parser{}), unsafe.Sizeof(rules{}); n > 200 || m > 400 {
		t.Errorf("a Parser has %d bytes, and its rules %d", n, m)
	}
	for _, c := range []struct {
		begin, more string
		kept        int
	}{
		{"\x1b", "(", 2}, {"\x1b[", "!", 2}, {"\x1b[", "1", 1}, {"\x1b[", ";", api.MaxParams}, {"\x1b[", "1;", api.MaxParams}, {"\x1b]", "s", api.MaxStr}, {"\x1bP", "\xff", api.MaxStr}, {"\x1bP", "\n", 0}, {"", "\x1b", 0}, {"", "\xf0", 1},
	} {
		p := fed(c.begin)
		for range 200 {
			p.Feed(strings.Repeat(c.more, 100))
			if n := p.Kept(); n != c.kept || len(p.begun.inter) > 2 || len(p.begun.text) > api.MaxStr {
				t.Fatalf("%+q: Kept is %d, not %d", c.more, n, c.kept)
			}
		}
	}
}

func TestP1306NilParser(t *testing.T) {
	var p *Parser
	for range 2 {
		tells(t, "a nil one", p, nil)
		tells(t, "a nil one", p, nil, "a", "\x1b[m\x1b]", "\xe2")
		is(t, "a nil one", p, true, 0)
	}
}

func TestP1306ZeroParser(t *testing.T) {
	p := new(Parser)
	is(t, "a zero one", p, true, 0)
	tells(t, "a zero one", p, list(printOf("a"), csiOf(0, "", 'm')), "a\x1b[m")
}

// However bytes are cut, in one Feed or in many, the acts are the same.
func TestP1301HoweverItIsCut(t *testing.T) {
	for seed := range 4000 {
		next := randoms(seed)
		s := stream(next, 1+next(40))
		p := &Parser{}
		holds(t, s, p, p.Feed(s))
		p = &Parser{}
		holds(t, s, p, p.Feed(cut(s, next)...))
		parts, bytes := &Parser{}, &Parser{}
		var l, m []api.Act
		for _, c := range cut(s, next) {
			l = append(l, parts.Feed(c)...)
		}
		for i := range len(s) {
			m = append(m, bytes.Feed(s[i:i+1])...)
			if k := bytes.Kept(); k > api.MaxStr+16 {
				t.Fatalf("%+q: Kept is %d", s[:i+1], k)
			}
		}
		holds(t, s, parts, l)
		holds(t, s, bytes, m)
		bytes.rules = parts.rules // each has its own, and they are alike
		if *parts != *bytes {
			t.Fatalf("%+q: %+v by parts, %+v by bytes", s, *parts, *bytes)
		}
	}
}

// Each text of up to five bytes that mean something, cut at each place, and such texts behind each beginning.
func TestP1301EveryShortText(t *testing.T) {
	for n := range 6 {
		texts("\x1b[](1;?\x07m\xe2", n, func(s string) {
			p := &Parser{}
			holds(t, s, p, p.Feed(s))
		})
	}
	for n := range 4 {
		texts("\x1b[]P(1;?:\x07\n\x00\x1a\x18m\x7f\xe2\x82\xff ", n, func(s string) {
			for _, c := range begunTexts {
				for k := range n + 1 {
					p := fed(c.fed)
					holds(t, c.fed+s, p, slices.Concat(p.Feed(s[:k]), p.Feed(s[k:])))
				}
			}
		})
	}
}

// Each byte behind each at which it turns what a byte is.
func TestP1301EachPairOfBytes(t *testing.T) {
	for _, c := range begunTexts {
		for i := range len(edges) {
			for b := range 256 {
				s := edges[i:i+1] + bytesOf(byte(b))
				p := fed(c.fed)
				holds(t, c.fed+s, p, p.Feed(s))
			}
		}
	}
}

// An act has but what its kind has.
func TestP1301OtherFieldsAreZero(t *testing.T) {
	want := list(printOf("a"), controlOf(10), csiOf('?', "!", 'h', 1), controlOf(7), escapeOf("(", '0'), escapeOf("", '7'), csiOf(0, "", 'm'), oscOf("t"), dcsOf("u"), printOf("b"))
	tells(t, "all kinds", &Parser{}, want, "a\n\x1b[?1!h\x07\x1b(0\x1b7\x1b[m\x1b]t\x07\x1bPu\x1b\x18b")
}

func TestP1301ParsersAreTheirOwn(t *testing.T) {
	a, b := &Parser{}, &Parser{}
	tells(t, "one", a, nil, "\x1b[1;2")
	tells(t, "another", b, list(printOf("3m")), "3m")
	tells(t, "one", a, list(csiOf(0, "", 'm', 1, 23)), "3m")
}

// Nothing is kept but in Parsers: whatever is laid into one's rules, or becomes of it, another one goes on as it should.
func TestP1301ParsersNeedNoOther(t *testing.T) {
	const s = "5;6!x\x1b\\\x1b[2m\xc3\xa9\x1b]t\x07"
	for _, c := range begunTexts {
		a, b := fed(c.fed), fed(c.fed)
		a.rules.table = [states]row{}
		tells(t, "one without rules", a, nil, s)
		holds(t, c.fed+s, b, b.Feed(s))
		d := &Parser{}
		holds(t, s, d, d.Feed(s))
	}
}

func TestP1301TheTableIsMadeOnce(t *testing.T) {
	p := &Parser{}
	p.Feed()
	first := p.rules
	for _, c := range begunTexts {
		p.Feed(c.fed, "\x18")
	}
	if p.rules != first || first.table != makeTable() {
		t.Error("another table was made, or it was changed")
	}
	first.table[ground][final] = step{ground, skip}
	tells(t, "a table that was turned", p, nil, "a")
}

// No state of the package's own, by LANGUAGE.md's rule 3b: at package level stands no variable without a value.
func TestP1301NothingAtPackageLevel(t *testing.T) {
	names, err := filepath.Glob("*.go")
	if err != nil || len(names) == 0 {
		t.Fatalf("%v: %d files", err, len(names))
	}
	for _, name := range names {
		if strings.HasSuffix(name, "_test.go") {
			continue
		}
		f, err := parser.ParseFile(token.NewFileSet(), name, nil, 0)
		if err != nil {
			t.Fatal(err)
		}
		for _, d := range f.Decls {
			if g, ok := d.(*ast.GenDecl); ok && g.Tok == token.VAR {
				t.Errorf("%s has a variable at package level", name)
			}
		}
	}
}

// A copy in the midst of an act goes on by itself.
func TestP1301Copies(t *testing.T) {
	for _, c := range begunTexts {
		a := fed(c.fed)
		b := *a
		holds(t, c.fed+"5;6!x\x1b\\", a, a.Feed("5;6!x\x1b\\"))
		holds(t, c.fed+"7\"~\x07", &b, b.Feed("7\"~\x07"))
	}
	a := fed("\x1b[1;2")
	b := *a
	tells(t, "one", a, list(csiOf(0, "", 'm', 1, 23, 4)), "3;4m")
	tells(t, "its copy", &b, list(csiOf(0, "!", 'm', 1, 25)), "5!m")
	a = fed("\x1b[1;2")
	b = *a
	*a = Parser{}
	tells(t, "one that is zero again", a, printOf("3m"), "3m")
	tells(t, "its copy", &b, list(csiOf(0, "", 'm', 1, 23)), "3m")
	a = &Parser{}
	b = *a
	tells(t, "a zero one", a, nil, "\x1b[1")
	tells(t, "its copy", &b, printOf("2m"), "2m")
	tells(t, "a zero one", a, list(csiOf(0, "", 'm', 12)), "2m")
	a = fed("\xe2\x82")
	b = *a
	tells(t, "one", a, printOf("\ufffdx"), "x")
	tells(t, "its copy", &b, printOf("\u20ac"), "\xac")
}

func TestP1301AnswersAreTheirOwn(t *testing.T) {
	p, in := &Parser{}, []string{"\x1b[1;2!m", "\x1b]t", "ext\x07\x1b(B\x1b[3m\x1b[3m"}
	want := list(csiOf(0, "!", 'm', 1, 2), oscOf("text"), escapeOf("(", 'B'), csiOf(0, "", 'm', 3), csiOf(0, "", 'm', 3))
	first, second := p.Feed(in...), p.Feed(in...)
	for i := range first {
		clear(first[i].Nums[:cap(first[i].Nums)])
		first[i] = controlOf(1)
	}
	clear(second[3].Nums[:cap(second[3].Nums)])
	if !slices.Equal(second[4].Nums, []int{3}) || !slices.Equal(second[0].Nums, []int{1, 2}) {
		t.Errorf("%v: two lists of one answer share", second)
	}
	tells(t, "a third time", p, want, in...)
	if !slices.Equal(in, []string{"\x1b[1;2!m", "\x1b]t", "ext\x07\x1b(B\x1b[3m\x1b[3m"}) {
		t.Errorf("%q", in)
	}
	for _, a := range second {
		for _, s := range in {
			notIn(t, a.Text, s)
			notIn(t, a.Inter, s)
		}
	}
}

// notIn tells whether a text lies in another one.
func notIn(t *testing.T, part, s string) {
	t.Helper()
	if part == "" {
		return
	}
	if p, q := uintptr(unsafe.Pointer(unsafe.StringData(part))), uintptr(unsafe.Pointer(unsafe.StringData(s))); p >= q && p < q+uintptr(len(s)) {
		t.Errorf("%q lies in what was handed in", part)
	}
}

// Many may be fed at the same time, the first time too, and copies of one.
func TestP1301ManyAtOnce(t *testing.T) {
	const s = "a\x1b[1;2H\x1b]t\x07\xe2\x82\xac\x1b(0"
	want := list(printOf("a"), csiOf(0, "", 'H', 1, 2), oscOf("t"), printOf("\u20ac"), escapeOf("(", '0'))
	got := make([][]api.Act, 50)
	of := make([]Parser, len(got))
	one := fed("\x1b[1;2")
	one.Feed("\x18")
	var all sync.WaitGroup
	for i := range got {
		if i%2 == 1 {
			of[i] = *one
		}
		all.Add(1)
		go func() {
			defer all.Done()
			got[i] = of[i].Feed(s)
		}()
	}
	all.Wait()
	for _, l := range got {
		if !same(l, want) {
			t.Errorf("%+v, not %+v", l, want)
		}
	}
}
