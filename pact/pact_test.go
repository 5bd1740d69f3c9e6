package pact

import (
	"math"
	"slices"
	"strings"
	"sync"
	"testing"
	"unsafe"

	"pontoon/api"
	"pontoon/nvt"
	"pontoon/opt"
	"pontoon/wire"
)

// The options that are agreed to, and the commands, as the chapter has them.
var (
	ours     = []int{0, 3, 24, 31}
	his      = []int{0, 1, 3}
	commands = []int{api.WILL, api.WONT, api.DO, api.DONT}
	far      = []int{-1, -2, -255, -256, 256, 257, 1 << 32, 1<<32 + 1, -1 << 32, math.MinInt, math.MaxInt} // no options
)

// plain makes a Pact of an ordinary terminal.
func plain() *Pact { return New("vt100", 10, 4) }

// size10x4 is what tells its size.
const size10x4 = "\xff\xfa\x1f\x00\x0a\x00\x04\xff\xf0"

func option(cmd, o int) api.Token      { return api.Token{Kind: api.Option, Cmd: cmd, Opt: o} }
func sub(o int, text string) api.Token { return api.Token{Kind: api.Sub, Opt: o, Text: text} }

// sends is what a command about an option is on the wire.
func sends(cmd, o int) string { return string([]byte{255, byte(cmd), byte(o)}) }

// sizes is what a size is on the wire, whose bytes that are 255 stand twice.
func sizes(w, h int) string {
	b := string([]byte{byte(w / 256), byte(w % 256), byte(h / 256), byte(h % 256)})
	return "\xff\xfa\x1f" + strings.ReplaceAll(b, "\xff", "\xff\xff") + "\xff\xf0"
}

// after makes an ordinary Pact that has taken tokens.
func after(l ...api.Token) *Pact {
	p := plain()
	for _, y := range l {
		p.Take(y)
	}
	return p
}

// is tells whether a text is the one that is wanted.
func is(t *testing.T, what, got, want string) {
	t.Helper()
	if got != want {
		t.Errorf("%s: %q, not %q", what, got, want)
	}
}

// told tells whether Told answers that.
func told(t *testing.T, what string, p *Pact, w, h int, ok bool) {
	t.Helper()
	if a, b, c := p.Told(); a != w || b != h || c != ok {
		t.Errorf("%s: Told is %d, %d, %t, not %d, %d, %t", what, a, b, c, w, h, ok)
	}
}

// states tells whether Us and Him of an option are in these states, and never Opposite.
func states(t *testing.T, what string, p *Pact, o, us, him int) {
	t.Helper()
	a, b := p.Us(o), p.Him(o)
	if a != (opt.Side{State: us}) || b != (opt.Side{State: him}) {
		t.Errorf("%s: of %d, Us is %v, Him %v, not %d, %d", what, o, a, b, us, him)
	}
}

// allStates tells whether all options are No, but those that are named.
func allStates(t *testing.T, what string, p *Pact, us, him map[int]int) {
	t.Helper()
	for o := -2; o < 259; o++ {
		states(t, what, p, o, us[o], him[o])
	}
	for _, o := range far {
		states(t, what, p, o, 0, 0)
	}
}

// sent tells whether so many Options were sent.
func sent(t *testing.T, what string, p *Pact, n int) {
	t.Helper()
	if k := p.Sent(); k != n {
		t.Errorf("%s: Sent is %d, not %d", what, k, n)
	}
}

// numbers makes numbers below n that are the same each time.
func numbers(seed int) func(n int) int {
	x := uint32(seed)
	return func(n int) int {
		x = x*1664525 + 1013904223
		return int(x>>16) % n
	}
}

func TestP1101Example(t *testing.T) {
	p := New("vt100", 10, 4)
	is(t, "Start", p.Start(), sends(api.WILL, api.NAWS)+sends(api.DO, api.SGA))
	is(t, "Take", p.Take(option(api.DO, 99)), sends(api.WONT, 99))
}

func TestP1101New(t *testing.T) {
	p := plain()
	allStates(t, "a new one", p, nil, nil)
	sent(t, "a new one", p, 0)
	told(t, "a new one", p, 0, 0, false)
}

func TestP1101Name(t *testing.T) {
	tests := []struct{ what, name, laid string }{
		{"none", "", ""},
		{"a short one", "vt100", "vt100"},
		{"29 bytes", strings.Repeat("n", 29), strings.Repeat("n", 29)},
		{"30 bytes", strings.Repeat("n", 29) + "m", strings.Repeat("n", 29) + "m"},
		{"31 bytes", strings.Repeat("n", 29) + "mo", strings.Repeat("n", 29) + "m"},
		{"many bytes", "x" + strings.Repeat("y", 100_000), "x" + strings.Repeat("y", 29)},
		{"a rune that is cut", strings.Repeat("n", 29) + "ä", strings.Repeat("n", 29) + "\xc3"},
		{"255 twice", "a\xffb", "a\xff\xffb"},
		{"30 bytes of 255", strings.Repeat("\xff", 31), strings.Repeat("\xff\xff", 30)},
		{"a 13", "a\rb\r", "a\rb\r"},
		{"what looks like an end", "a\xff\xf0b\x00", "a\xff\xff\xf0b\x00"},
	}
	for _, c := range tests {
		p := New(c.name, 1, 1)
		p.Take(option(api.DO, api.TType))
		is(t, c.what, p.Take(sub(api.TType, "\x01")), "\xff\xfa\x18\x00"+c.laid+"\xff\xf0")
	}
}

// The name is a Pact's own: it stays, whatever comes of the memory that was handed in.
func TestP1101NameIsItsOwn(t *testing.T) {
	for _, n := range []int{5, 30, 31} {
		b := []byte(strings.Repeat("n", n))
		p := New(unsafe.String(&b[0], n), 1, 1)
		for i := range b {
			b[i] = 'x'
		}
		p.Take(option(api.DO, api.TType))
		is(t, "the name", p.Take(sub(api.TType, "\x01")), "\xff\xfa\x18\x00"+strings.Repeat("n", min(n, 30))+"\xff\xf0")
	}
}

// ends are sizes, and what they are within their ends.
var ends = []struct{ n, size int }{
	{0, 0}, {1, 1}, {-1, 0}, {math.MinInt, 0}, {-65_536, 0}, {-1 << 32, 0},
	{255, 255}, {256, 256}, {65_279, 65_279}, {65_534, 65_534}, {65_535, 65_535},
	{65_536, 65_535}, {65_537, 65_535}, {1 << 32, 65_535}, {math.MaxInt, 65_535},
}

func TestP1101SizeAtItsEnds(t *testing.T) {
	for _, w := range ends {
		for _, h := range ends {
			p := New("vt100", w.n, h.n)
			is(t, "New", p.Take(option(api.DO, api.NAWS)), sends(api.WILL, api.NAWS)+sizes(w.size, h.size))
			told(t, "New", p, w.size, h.size, true)
		}
	}
}

func TestP1101Start(t *testing.T) {
	p := plain()
	is(t, "Start", p.Start(), "\xff\xfb\x1f\xff\xfd\x03")
	allStates(t, "Start", p, map[int]int{api.NAWS: opt.WantYes}, map[int]int{api.SGA: opt.WantYes})
	sent(t, "Start", p, 2)
	told(t, "Start", p, 0, 0, false)
}

// What the host began with is not asked for.
func TestP1101StartBehindTheHost(t *testing.T) {
	naws, sga := sends(api.WILL, api.NAWS), sends(api.DO, api.SGA)
	doNaws, willSga := option(api.DO, api.NAWS), option(api.WILL, api.SGA)
	tests := []struct {
		what  string
		heard []api.Token
		start string
	}{
		{"nothing", nil, naws + sga},
		{"DO NAWS", []api.Token{doNaws}, sga},
		{"WILL SGA", []api.Token{willSga}, naws},
		{"both", []api.Token{doNaws, willSga}, ""},
		{"both, taken back", []api.Token{doNaws, willSga, option(api.DONT, api.NAWS), option(api.WONT, api.SGA)}, naws + sga},
		{"the other sides of the two", []api.Token{option(api.WILL, api.NAWS), option(api.DO, api.SGA)}, naws + sga},
		{"off", []api.Token{option(api.DONT, api.NAWS), option(api.WONT, api.SGA)}, naws + sga},
	}
	for _, c := range tests {
		p := after(c.heard...)
		before := p.Sent()
		is(t, c.what, p.Start(), c.start)
		sent(t, c.what, p, before+len(c.start)/3)
	}
}

// Start is done once, be there something to ask for then or not, and whatever comes of it.
func TestP1101StartAgain(t *testing.T) {
	heard := [][]api.Token{
		nil,
		{option(api.DO, api.NAWS), option(api.WILL, api.SGA)},
		{option(api.DONT, api.NAWS), option(api.WONT, api.SGA)},
		{option(api.DO, api.NAWS), option(api.WILL, api.SGA), option(api.DONT, api.NAWS), option(api.WONT, api.SGA)},
	}
	for _, ahead := range heard {
		for _, behind := range heard {
			p := after(ahead...)
			p.Start()
			for _, y := range behind {
				p.Take(y)
			}
			us, him, n := p.Us(api.NAWS), p.Him(api.SGA), p.Sent()
			for range 3 {
				is(t, "Start again", p.Start(), "")
			}
			if p.Us(api.NAWS) != us || p.Him(api.SGA) != him || p.Sent() != n {
				t.Errorf("Start again turned %v, %v, %d to %v, %v, %d", us, him, n, p.Us(api.NAWS), p.Him(api.SGA), p.Sent())
			}
		}
	}
}

// Of many who Start at the same time, one is told what is sent.
func TestP1101ManyStart(t *testing.T) {
	const workers = 8
	for range 200 {
		p := plain()
		var answers [workers]string
		var w sync.WaitGroup
		for k := range workers {
			w.Go(func() { answers[k] = p.Start() })
		}
		w.Wait()
		is(t, "all answers", strings.Join(answers[:], ""), "\xff\xfb\x1f\xff\xfd\x03")
		sent(t, "many Start", p, 2)
	}
}

// Each connection begins anew: what one has agreed on is nothing to another.
func TestP1101PactsAreTheirOwn(t *testing.T) {
	a, b := plain(), New("other", 1, 1)
	a.Start()
	a.Take(option(api.DO, api.NAWS))
	a.Take(option(api.WILL, api.Echo))
	allStates(t, "the other one", b, nil, nil)
	sent(t, "the other one", b, 0)
	told(t, "the other one", b, 0, 0, false)
	is(t, "the other one", b.Start(), "\xff\xfb\x1f\xff\xfd\x03")
}

// Each command about each option that a new Pact hears.
func TestP1102FirstCommand(t *testing.T) {
	for o := range 256 {
		for _, cmd := range commands {
			want, us, him := "", 0, 0
			switch {
			case cmd == api.WILL && slices.Contains(his, o):
				want, him = sends(api.DO, o), opt.Yes
			case cmd == api.WILL:
				want = sends(api.DONT, o)
			case cmd == api.DO && slices.Contains(ours, o):
				want, us = sends(api.WILL, o), opt.Yes
			case cmd == api.DO:
				want = sends(api.WONT, o)
			}
			n := len(want) / 3
			if cmd == api.DO && o == api.NAWS {
				want += size10x4
			}
			p := plain()
			is(t, "the first command", p.Take(option(cmd, o)), want)
			allStates(t, "the first command", p, map[int]int{o: us}, map[int]int{o: him})
			sent(t, "the first command", p, n)
		}
	}
}

// What is on, and heard of again, says nothing; what goes off is agreed to, and once.
func TestP1102OnAndOff(t *testing.T) {
	tests := []struct {
		on, off, said, unsaid int
		agreed                []int
	}{
		{api.DO, api.DONT, api.WILL, api.WONT, ours},
		{api.WILL, api.WONT, api.DO, api.DONT, his},
	}
	for _, c := range tests {
		for _, o := range c.agreed {
			p, size := plain(), ""
			if c.on == api.DO && o == api.NAWS {
				size = size10x4
			}
			for round := range 3 {
				is(t, "on", p.Take(option(c.on, o)), sends(c.said, o)+size)
				is(t, "on again", p.Take(option(c.on, o)), "")
				is(t, "off", p.Take(option(c.off, o)), sends(c.unsaid, o))
				is(t, "off again", p.Take(option(c.off, o)), "")
				sent(t, "on and off", p, 2*(round+1))
				allStates(t, "on and off", p, nil, nil)
			}
		}
	}
}

// The answers to what Start asks for.
func TestP1102AnswersToStart(t *testing.T) {
	tests := []struct {
		what    string
		heard   api.Token
		answer  string
		us, him int
	}{
		{"DO NAWS", option(api.DO, api.NAWS), size10x4, opt.Yes, opt.WantYes},
		{"DONT NAWS", option(api.DONT, api.NAWS), "", opt.No, opt.WantYes},
		{"WILL SGA", option(api.WILL, api.SGA), "", opt.WantYes, opt.Yes},
		{"WONT SGA", option(api.WONT, api.SGA), "", opt.WantYes, opt.No},
	}
	for _, c := range tests {
		p := plain()
		p.Start()
		is(t, c.what, p.Take(c.heard), c.answer)
		allStates(t, c.what, p, map[int]int{api.NAWS: c.us}, map[int]int{api.SGA: c.him})
		sent(t, c.what, p, 2)
	}
}

// Tokens that say nothing to a Pact, be its sides on, off or asked for.
func TestP1102Others(t *testing.T) {
	var l []api.Token
	for _, o := range far {
		for _, cmd := range commands {
			l = append(l, option(cmd, o))
		}
	}
	for _, cmd := range []int{0, -1, 1, api.SE, api.SB, api.SB - 1, api.IAC, 256, api.WILL + 256, api.DO + 1<<32, math.MinInt, math.MaxInt} {
		for _, o := range []int{api.Binary, api.Echo, api.SGA, api.TType, api.NAWS, 99} {
			l = append(l, option(cmd, o))
		}
	}
	for _, kind := range []int{api.Data, api.Command, -1, 4, 5, 1 << 32, api.Option + 1<<32, api.Sub + 1<<32, math.MinInt, math.MaxInt} {
		for _, cmd := range commands {
			l = append(l, api.Token{Kind: kind, Cmd: cmd, Opt: api.NAWS, Text: "\x01"}, api.Token{Kind: kind, Cmd: cmd, Opt: api.TType, Text: "\x01"})
		}
	}
	started := plain()
	started.Start()
	for _, p := range []*Pact{plain(), started, after(option(api.DO, api.NAWS), option(api.DO, api.TType), option(api.WILL, api.SGA))} {
		us, him, n := map[int]int{}, map[int]int{}, p.Sent()
		for o := range 256 {
			us[o], him[o] = p.Us(o).State, p.Him(o).State
		}
		for _, y := range l {
			is(t, "a token that says nothing", p.Take(y), "")
		}
		allStates(t, "behind tokens that say nothing", p, us, him)
		sent(t, "behind tokens that say nothing", p, n)
	}
}

// A token's other fields mean nothing.
func TestP1102OtherFields(t *testing.T) {
	p := plain()
	is(t, "an Option with a text", p.Take(api.Token{Kind: api.Option, Cmd: api.DO, Opt: api.TType, Text: "x"}), sends(api.WILL, api.TType))
	is(t, "a Sub with a command", p.Take(api.Token{Kind: api.Sub, Cmd: api.DONT, Opt: api.TType, Text: "\x01"}), "\xff\xfa\x18\x00vt100\xff\xf0")
	states(t, "a Sub with a command", p, api.TType, opt.Yes, opt.No)
}

// Wherever our NAWS goes on, and there alone, the size stands behind what is sent.
func TestP1102SizeBehindNAWS(t *testing.T) {
	p := plain()
	is(t, "DO, unasked", p.Take(option(api.DO, api.NAWS)), sends(api.WILL, api.NAWS)+size10x4)
	told(t, "DO, unasked", p, 10, 4, true)
	is(t, "DO again", p.Take(option(api.DO, api.NAWS)), "")
	is(t, "another option", p.Take(option(api.DO, api.SGA)), sends(api.WILL, api.SGA))
	is(t, "his side", p.Take(option(api.WILL, api.NAWS)), sends(api.DONT, api.NAWS))
	is(t, "DONT", p.Take(option(api.DONT, api.NAWS)), sends(api.WONT, api.NAWS))
	told(t, "DONT", p, 10, 4, true)
	is(t, "DO once more, of the size that was told", p.Take(option(api.DO, api.NAWS)), sends(api.WILL, api.NAWS)+size10x4)
	p.Take(option(api.DONT, api.NAWS))
	is(t, "while it is off", p.Size(80, 25), "")
	told(t, "while it is off", p, 10, 4, true)
	is(t, "DO, of another size", p.Take(option(api.DO, api.NAWS)), sends(api.WILL, api.NAWS)+sizes(80, 25))
	told(t, "DO, of another size", p, 80, 25, true)
	sent(t, "all", p, 7)
}

// What was asked for and refused may be agreed to later.
func TestP1102SizeBehindARefusal(t *testing.T) {
	p := plain()
	p.Start()
	is(t, "DONT", p.Take(option(api.DONT, api.NAWS)), "")
	is(t, "Size", p.Size(7, 7), "")
	told(t, "DONT", p, 0, 0, false)
	is(t, "DO", p.Take(option(api.DO, api.NAWS)), sends(api.WILL, api.NAWS)+sizes(7, 7))
	told(t, "DO", p, 7, 7, true)
}

func TestP1102Name(t *testing.T) {
	const name = "\xff\xfa\x18\x00vt100\xff\xf0"
	p := plain()
	is(t, "ahead of all", p.Take(sub(api.TType, "\x01")), "")
	p.Start()
	is(t, "ahead of DO", p.Take(sub(api.TType, "\x01")), "")
	p.Take(option(api.WILL, api.TType))
	is(t, "behind a WILL", p.Take(sub(api.TType, "\x01")), "")
	p.Take(option(api.DO, api.TType))
	n := p.Sent()
	for range 3 {
		is(t, "behind a DO", p.Take(sub(api.TType, "\x01")), name)
	}
	sent(t, "a name is no Option", p, n)
	for _, text := range []string{"", "\x00", "\x02", "1", "\xff", "\x01\x01", "\x01\x00", "\x00\x01", "\x01 ", "\x00vt100"} {
		is(t, "another text", p.Take(sub(api.TType, text)), "")
	}
	p.Take(option(api.DO, api.NAWS))
	for _, o := range append([]int{api.Binary, api.Echo, api.SGA, api.NAWS, api.TType - 1, api.TType + 1, api.TType + 256, api.TType + 1<<32, 255}, far...) {
		is(t, "another option", p.Take(sub(o, "\x01")), "")
	}
	p.Take(option(api.DONT, api.TType))
	is(t, "behind a DONT", p.Take(sub(api.TType, "\x01")), "")
	p.Take(option(api.DO, api.TType))
	is(t, "behind another DO", p.Take(sub(api.TType, "\x01")), name)
	states(t, "at the end", p, api.TType, opt.Yes, opt.No)
}

func TestP1102Size(t *testing.T) {
	p := plain()
	is(t, "off", p.Size(20, 5), "")
	p.Start()
	is(t, "asked for", p.Size(30, 6), "")
	told(t, "asked for", p, 0, 0, false)
	is(t, "on", p.Take(option(api.DO, api.NAWS)), sizes(30, 6))
	is(t, "the one that was told", p.Size(30, 6), "")
	is(t, "other columns", p.Size(31, 6), sizes(31, 6))
	told(t, "other columns", p, 31, 6, true)
	is(t, "other rows", p.Size(31, 7), sizes(31, 7))
	told(t, "other rows", p, 31, 7, true)
	is(t, "one of before", p.Size(30, 6), sizes(30, 6))
	is(t, "once more", p.Size(30, 6), "")
	is(t, "turned about", p.Size(6, 30), sizes(6, 30))
	is(t, "none", p.Size(0, 0), sizes(0, 0))
	told(t, "none", p, 0, 0, true)
	is(t, "none again", p.Size(-3, math.MinInt), "")
	is(t, "the greatest", p.Size(65_535, 65_535), "\xff\xfa\x1f\xff\xff\xff\xff\xff\xff\xff\xff\xff\xf0")
	is(t, "beyond it", p.Size(65_536, math.MaxInt), "")
	is(t, "the highest byte first", p.Size(0x0102, 0xff03), "\xff\xfa\x1f\x01\x02\xff\xff\x03\xff\xf0")
	sent(t, "a size is no Option", p, 2)
}

// The size that is held against the next one is the one that was told, not the one that was set.
func TestP1102SizeThatWasNotTold(t *testing.T) {
	p := plain()
	p.Take(option(api.DO, api.NAWS))
	p.Take(option(api.DONT, api.NAWS))
	is(t, "off", p.Size(50, 9), "")
	is(t, "off, and set anew", p.Size(10, 4), "")
	is(t, "on", p.Take(option(api.DO, api.NAWS)), sends(api.WILL, api.NAWS)+size10x4)
	zero := New("vt100", 0, 0)
	told(t, "a size of none", zero, 0, 0, false)
	is(t, "a size of none", zero.Take(option(api.DO, api.NAWS)), sends(api.WILL, api.NAWS)+sizes(0, 0))
	told(t, "a size of none", zero, 0, 0, true)
	is(t, "a size of none, set anew", zero.Size(0, 0), "")
}

func TestP1102SizeAtItsEnds(t *testing.T) {
	p := New("vt100", 3, 3)
	p.Take(option(api.DO, api.NAWS))
	for _, w := range ends {
		for _, h := range ends {
			p.Size(3, 3)
			is(t, "Size", p.Size(w.n, h.n), sizes(w.size, h.size))
			told(t, "Size", p, w.size, h.size, true)
		}
	}
}

func TestP1103Sides(t *testing.T) {
	p := after(option(api.DO, api.Binary), option(api.WILL, api.Echo), option(api.DO, 255), option(api.WILL, 0))
	p.Start()
	allStates(t, "sides", p, map[int]int{api.Binary: opt.Yes, api.NAWS: opt.WantYes}, map[int]int{api.Echo: opt.Yes, api.Binary: opt.Yes, api.SGA: opt.WantYes})
	side := p.Us(api.Binary)
	side.State = opt.No
	states(t, "a side that is told is its own", p, api.Binary, opt.Yes, opt.Yes)
}

// What New did not make, be it nil or zero, is nothing.
func TestP1103NilAndZero(t *testing.T) {
	for _, p := range []*Pact{nil, {}} {
		for range 2 {
			is(t, "Start", p.Start(), "")
			for o := range 256 {
				for _, cmd := range commands {
					is(t, "Take", p.Take(option(cmd, o)), "")
				}
			}
			is(t, "Take of a Sub", p.Take(sub(api.TType, "\x01")), "")
			is(t, "Take of nothing", p.Take(api.Token{}), "")
			is(t, "Size", p.Size(10, 4), "")
			allStates(t, "none", p, nil, nil)
			sent(t, "none", p, 0)
			told(t, "none", p, 0, 0, false)
		}
	}
}

// model is a Pact as the chapter tells of it, option by option.
type model struct {
	us, him            [256]opt.Side
	w, h, toldW, toldH int
	told, started      bool
	sent, taken        int
}

// say counts what is sent, and lays it.
func (m *model) say(n, on, off, o int) string {
	if n == 0 {
		return ""
	}
	m.sent++
	cmd := map[int]int{1: on, -1: off}[n]
	s, _ := wire.Option(cmd, o)
	return s
}

func (m *model) start() string {
	if m.started {
		return ""
	}
	m.started = true
	var a, b int
	m.us[31], a = m.us[31].Ask(true)
	m.him[3], b = m.him[3].Ask(true)
	return m.say(a, api.WILL, api.WONT, 31) + m.say(b, api.DO, api.DONT, 3)
}

func (m *model) tell() string {
	m.toldW, m.toldH, m.told = m.w, m.h, true
	return sizes(m.w, m.h)
}

func (m *model) option(cmd, o int) string {
	m.taken++
	on, n := cmd == api.WILL || cmd == api.DO, 0
	if cmd == api.WILL || cmd == api.WONT {
		m.him[o], n = m.him[o].Heard(on, slices.Contains(his, o))
		return m.say(n, api.DO, api.DONT, o)
	}
	was := m.us[31].State == opt.Yes
	m.us[o], n = m.us[o].Heard(on, slices.Contains(ours, o))
	s := m.say(n, api.WILL, api.WONT, o)
	if m.us[31].State == opt.Yes && !was {
		s += m.tell()
	}
	return s
}

func (m *model) size(w, h int) string {
	m.w, m.h = w, h
	if m.us[31].State != opt.Yes || m.told && m.toldW == w && m.toldH == h {
		return ""
	}
	return m.tell()
}

func (m *model) name() string {
	if m.us[24].State != opt.Yes {
		return ""
	}
	return "\xff\xfa\x18\x00vt100\xff\xf0"
}

// step does one step of a course to both; what each sends.
func (m *model) step(p *Pact, next func(n int) int) (string, string) {
	options := []int{0, 1, 3, 24, 31, 31, 31, 99, 255}
	switch next(8) {
	case 0:
		return p.Start(), m.start()
	case 1:
		return p.Take(sub(api.TType, "\x01")), m.name()
	case 2, 3:
		w, h := next(3), next(3)
		return p.Size(w, h), m.size(w, h)
	}
	cmd, o := commands[next(4)], options[next(len(options))]
	return p.Take(option(cmd, o)), m.option(cmd, o)
}

// Whatever comes, in whatever order, a Pact is as the model; what is sent is read by a Reader as so many Options as were Sent, never above those that were taken and two, and whose NAWS is on was told the last size.
func TestP1104WhateverComes(t *testing.T) {
	for seed := range 1500 {
		next, p, m, r, read := numbers(seed), New("vt100", 2, 2), &model{w: 2, h: 2}, &nvt.Reader{}, 0
		for range 60 {
			got, want := m.step(p, next)
			if got != want {
				t.Fatalf("seed %d: %q is sent, not %q", seed, got, want)
			}
			for _, y := range r.Feed(got) {
				if y.Kind == api.Option {
					read++
				}
			}
			if p.Sent() != m.sent || read != m.sent || m.sent > m.taken+2 || !r.Whole() {
				t.Fatalf("seed %d: Sent is %d, not %d; %d were read, of %d taken", seed, p.Sent(), m.sent, read, m.taken)
			}
			told(t, "whatever comes", p, m.toldW, m.toldH, m.told)
			if w, h, _ := p.Told(); p.Us(api.NAWS).On() && (w != m.w || h != m.h) {
				t.Fatalf("seed %d: %d, %d was told, not %d, %d", seed, w, h, m.w, m.h)
			}
		}
		for o := range 256 {
			states(t, "whatever comes", p, o, m.us[o].State, m.him[o].State)
		}
	}
}

// The bound is met: two that were asked for, and an answer to each that was taken.
func TestP1104AtItsBound(t *testing.T) {
	p := plain()
	p.Start()
	for n := range 300 {
		p.Take(option([]int{api.DO, api.WILL}[n%2], 100+n%100))
		sent(t, "refusals", p, n+3)
	}
	for n := range 300 {
		p.Take(option([]int{api.DONT, api.WONT}[n%2], n%256))
	}
	sent(t, "what is off already", p, 302)
}

// hostEnd is the far end of a connection: it asks too, and keeps its sides, and ours, by the same table.
type hostEnd struct {
	its, ours [256]opt.Side
	agree     [256]bool
}

// ask is what the host sends when it wants an option of its own, or of ours, on or off.
func (h *hostEnd) ask(own bool, o int, on bool) string {
	n := 0
	if own {
		h.its[o], n = h.its[o].Ask(on)
		return said(n, api.WILL, api.WONT, o)
	}
	h.ours[o], n = h.ours[o].Ask(on)
	return said(n, api.DO, api.DONT, o)
}

// hear is what the host sends of what it hears.
func (h *hostEnd) hear(y api.Token) string {
	n := 0
	switch y.Cmd {
	case api.DO, api.DONT:
		h.its[y.Opt], n = h.its[y.Opt].Heard(y.Cmd == api.DO, h.agree[y.Opt])
		return said(n, api.WILL, api.WONT, y.Opt)
	case api.WILL, api.WONT:
		h.ours[y.Opt], n = h.ours[y.Opt].Heard(y.Cmd == api.WILL, h.agree[y.Opt])
		return said(n, api.DO, api.DONT, y.Opt)
	}
	return ""
}

func said(n, on, off, o int) string {
	switch n {
	case 1:
		return sends(on, o)
	case -1:
		return sends(off, o)
	}
	return ""
}

// talk has a Pact and a host, what waits for either, and the last size that the host was told.
type talk struct {
	p        *Pact
	h        hostEnd
	toP, toH string
	ofP, ofH nvt.Reader
	size     string
}

// bring brings all that waits for one of the two; was there anything?
func (k *talk) bring(toPact bool) bool {
	if toPact {
		l := k.ofP.Feed(k.toP)
		k.toP = ""
		for _, y := range l {
			k.toH += k.p.Take(y)
		}
		return len(l) > 0
	}
	l := k.ofH.Feed(k.toH)
	k.toH = ""
	for _, y := range l {
		if y.Kind == api.Option {
			k.toP += k.h.hear(y)
		} else {
			k.size = y.Text
		}
	}
	return len(l) > 0
}

func (k *talk) rests() bool {
	for range 100 {
		first, second := k.bring(true), k.bring(false)
		if !first && !second {
			return true
		}
	}
	return false
}

// What both ask for, and whenever it is heard, they come to rest, of one mind; the host was told the last size, if it wants it.
func TestP1104APactAndAHostComeToRest(t *testing.T) {
	for seed := range 2000 {
		next, k := numbers(seed), &talk{p: New("vt100", 2, 2)}
		for o := range 256 {
			k.h.agree[o] = next(2) == 1
		}
		w, h := 2, 2
		for range 20 {
			switch next(5) {
			case 0:
				k.toH += k.p.Start()
			case 1:
				w, h = next(3), next(3)
				k.toH += k.p.Size(w, h)
			case 2:
				k.toP += k.h.ask(next(2) == 1, []int{0, 1, 3, 24, 31, 99}[next(6)], next(3) > 0)
			default:
				k.bring(next(2) == 1)
			}
		}
		if !k.rests() {
			t.Fatalf("seed %d: no rest", seed)
		}
		for o := range 256 {
			if a, b := k.p.Us(o), k.h.ours[o]; a != b || a.State > opt.Yes {
				t.Fatalf("seed %d: of our side of %d, we have %v, the host %v", seed, o, a, b)
			}
			if a, b := k.p.Him(o), k.h.its[o]; a != b || a.State > opt.Yes {
				t.Fatalf("seed %d: of the host's side of %d, we have %v, the host %v", seed, o, a, b)
			}
		}
		if last := string([]byte{0, byte(w), 0, byte(h)}); k.p.Us(api.NAWS).On() && k.size != last {
			t.Fatalf("seed %d: the host was told %q, not %q", seed, k.size, last)
		}
	}
}
