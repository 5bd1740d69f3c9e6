package frame

import (
	"math"
	"strconv"
	"strings"
	"testing"
	"unsafe"

	"pontoon/api"
	"pontoon/seal"
	"pontoon/window"
)

// lay makes a datagram.
func lay(t *testing.T, key string, f Frame) string {
	t.Helper()
	b, err := Lay(key, f)
	if err != api.OK {
		t.Fatalf("%v can't be laid: %d", f, err)
	}
	return b
}

// sends tells whether Send answers the datagram of that number, and counts it.
func sends(t *testing.T, what string, p *Port, key, body string, way, seq int) string {
	t.Helper()
	b, err := p.Send(body)
	if want := lay(t, key, Frame{Way: way, Seq: seq, Body: body}); b != want || err != api.OK || p.Sent() != seq {
		t.Errorf("%s: Send is %x, %d, and %d were sent, not %x", what, b, err, p.Sent(), want)
	}
	return b
}

// keeps tells whether Send answers an error, and takes no number.
func keeps(t *testing.T, what string, p *Port, body string, err api.Errno) {
	t.Helper()
	sent, top := p.Sent(), p.Top()
	if b, e := p.Send(body); b != "" || e != err || p.Sent() != sent || p.Top() != top {
		t.Errorf("%s: Send is %x, %d, not %d; Sent %d, Top %d, not %d, %d", what, b, e, err, p.Sent(), p.Top(), sent, top)
	}
}

// takes tells whether Take answers that Frame, and what Top is then.
func takes(t *testing.T, what string, p *Port, b string, f Frame, top int) {
	t.Helper()
	sent := p.Sent()
	if got, err := p.Take(b); got != f || err != api.OK || p.Top() != top || p.Sent() != sent {
		t.Errorf("%s: Take is %v, %d, not %v; Top %d, not %d; Sent %d, not %d", what, got, err, f, p.Top(), top, p.Sent(), sent)
	}
}

// refuses tells whether Take answers an error, and changes nothing.
func refuses(t *testing.T, what string, p *Port, b string, err api.Errno) {
	t.Helper()
	sent, top := p.Sent(), p.Top()
	if got, e := p.Take(b); got != (Frame{}) || e != err || p.Top() != top || p.Sent() != sent {
		t.Errorf("%s: Take is %v, %d, not %d; Top %d, Sent %d, not %d, %d", what, got, e, err, p.Top(), p.Sent(), top, sent)
	}
}

// counts tells whether a Port has sent and taken up to there.
func counts(t *testing.T, what string, p *Port, sent, top int) {
	t.Helper()
	if p.Sent() != sent || p.Top() != top {
		t.Errorf("%s: Sent %d, Top %d, not %d, %d", what, p.Sent(), p.Top(), sent, top)
	}
}

func TestP702Example(t *testing.T) {
	gate, client := New("k", ToClient), New("k", ToGate)
	counts(t, "a new one", gate, 0, 0)
	b := sends(t, "the first", gate, "k", "screen", ToClient, 1)
	takes(t, "the first", client, b, Frame{Way: ToClient, Seq: 1, Body: "screen"}, 1)
	refuses(t, "once more", client, b, api.ErrOld)
	back := sends(t, "back", client, "k", "keys", ToGate, 1)
	takes(t, "back", gate, back, Frame{Way: ToGate, Seq: 1, Body: "keys"}, 1)
	refuses(t, "back once more", gate, back, api.ErrOld)
	counts(t, "the gate's", gate, 1, 1)
	counts(t, "the client's", client, 1, 1)
}

func TestP702SendTakesTheNextNumber(t *testing.T) {
	for _, way := range []int{ToClient, ToGate} {
		for _, key := range []string{"", "k", strings.Repeat("long", 40)} {
			p := New(key, way)
			for n := range 300 {
				sends(t, "one by one", p, key, strings.Repeat("x", n%5), way, n+1)
			}
			counts(t, "behind them", p, 300, 0)
		}
	}
}

func TestP702SendLong(t *testing.T) {
	p, most := New("k", ToGate), strings.Repeat("x", api.MaxData)
	keeps(t, "too long, as the first", p, most+"x", api.ErrLong)
	sends(t, "the longest", p, "k", most, ToGate, 1)
	for range 3 {
		keeps(t, "too long", p, most+"xx", api.ErrLong)
	}
	sends(t, "the next", p, "k", "", ToGate, 2)
	sends(t, "the one behind", p, "k", "", ToGate, 3)
}

// Nobody sends that many; a number that Lay does not lay is not taken either.
func TestP702SendAtTheEnd(t *testing.T) {
	p := New("k", ToClient)
	p.sent = last - 1
	sends(t, "the last one", p, "k", "x", ToClient, last)
	keeps(t, "one more", p, "x", api.ErrArg)
	keeps(t, "and one more", p, strings.Repeat("x", api.MaxData+1), api.ErrArg)
}

func TestP702TakeInAnyOrder(t *testing.T) {
	gate, client := New("k", ToClient), New("k", ToGate)
	var l []string
	for n := range 6 {
		l = append(l, sends(t, "sent", gate, "k", strconv.Itoa(n+1), ToClient, n+1))
	}
	steps := []struct{ n, top int }{{3, 3}, {1, 3}, {6, 6}, {2, 6}, {5, 6}}
	for _, s := range steps {
		takes(t, "its turn", client, l[s.n-1], Frame{Way: ToClient, Seq: s.n, Body: strconv.Itoa(s.n)}, s.top)
		refuses(t, "doubled", client, l[s.n-1], api.ErrOld)
	}
	for _, s := range steps {
		refuses(t, "doubled, later", client, l[s.n-1], api.ErrOld)
	}
	takes(t, "the one that was late", client, l[3], Frame{Way: ToClient, Seq: 4, Body: "4"}, 6)
}

// What is up to Top less window.Wide is not told from what came.
func TestP702TakeOld(t *testing.T) {
	for _, top := range []int{64, 65, 66, 1000, 1 << 40, last - 1, last} {
		p, old := New("k", ToGate), top-window.Wide
		of := func(n int) string { return lay(t, "k", Frame{Way: ToClient, Seq: n, Body: "x"}) }
		takes(t, "the top", p, of(top), Frame{Way: ToClient, Seq: top, Body: "x"}, top)
		for _, n := range []int{old, old - 1, 1} {
			if n > 0 && n <= old {
				refuses(t, "too old", p, of(n), api.ErrOld)
			}
		}
		takes(t, "just not too old", p, of(old+1), Frame{Way: ToClient, Seq: old + 1, Body: "x"}, top)
		refuses(t, "once more", p, of(old+1), api.ErrOld)
		refuses(t, "the top once more", p, of(top), api.ErrOld)
	}
}

// A Port's own datagrams, sent back to it, do not keep the other's of the same numbers out.
func TestP702TakeOwnWay(t *testing.T) {
	for _, way := range []int{ToClient, ToGate} {
		other := ToClient + ToGate - way
		p := New("k", way)
		own := sends(t, "its own", p, "k", "x", way, 1)
		refuses(t, "its own", p, own, api.ErrForm)
		refuses(t, "another one's of its way", p, lay(t, "k", Frame{Way: way, Seq: 900}), api.ErrForm)
		for _, n := range []int{1, 900, 836 + 1} {
			f := Frame{Way: other, Seq: n, Body: "y"}
			takes(t, "the other's", p, lay(t, "k", f), f, max(p.Top(), n))
		}
		refuses(t, "its own, of a number that came", p, own, api.ErrForm)
		refuses(t, "its own, of a number that is old", p, lay(t, "k", Frame{Way: way, Seq: 2}), api.ErrForm)
	}
}

func TestP702TakeHasReadsErrors(t *testing.T) {
	p := New("k", ToGate)
	f := Frame{Way: ToClient, Seq: 9, Body: "body"}
	b := lay(t, "k", f)
	long := text(1, 9, strings.Repeat("x", api.MaxData+1))
	wrong := []struct {
		what, b string
		err     api.Errno
	}{
		{"nothing", "", api.ErrShort}, {"a part of a tag", b[:15], api.ErrShort}, {"a part", b[:20], api.ErrTag},
		{"another key", lay(t, "j", f), api.ErrTag}, {"no key", lay(t, "", f), api.ErrTag}, {"a byte more", b + "x", api.ErrTag},
		{"nothing under the tag", seal.Seal("k"), api.ErrShort}, {"too few bytes", seal.Seal("k", text(1, 9, "")[:8]), api.ErrShort},
		{"no way", seal.Seal("k", text(3, 9, "body")), api.ErrForm}, {"no number", seal.Seal("k", text(1, 0, "body")), api.ErrForm},
		{"a greater number", seal.Seal("k", text(1, last+1, "body")), api.ErrForm}, {"a longer body", seal.Seal("k", long), api.ErrForm},
		{"its own way, of another key", lay(t, "j", Frame{Way: ToGate, Seq: 9}), api.ErrTag},
	}
	for _, c := range wrong {
		refuses(t, c.what, p, c.b, c.err)
	}
	takes(t, "behind them all", p, b, f, 9)
	for _, c := range wrong {
		refuses(t, c.what+", later", p, c.b, c.err)
	}
	next := Frame{Way: ToClient, Seq: 8}
	takes(t, "the next", p, lay(t, "k", next), next, 9)
}

func TestP702TakeOfBoundaries(t *testing.T) {
	p, most := New("k", ToClient), strings.Repeat("x", api.MaxData)
	for _, f := range []Frame{{Way: ToGate, Seq: 1}, {Way: ToGate, Seq: 2, Body: most}, {Way: ToGate, Seq: last, Body: "\x00"}} {
		takes(t, "an end", p, lay(t, "k", f), f, f.Seq)
	}
	refuses(t, "a number from long ago", p, lay(t, "k", Frame{Way: ToGate, Seq: 3}), api.ErrOld)
}

// noPort tells whether each call of a Port answers ErrArg and zero values, whatever is handed in.
func noPort(t *testing.T, what string, p *Port) {
	t.Helper()
	for range 2 {
		for _, body := range []string{"", "x", strings.Repeat("x", api.MaxData+1)} {
			keeps(t, what, p, body, api.ErrArg)
		}
		for _, key := range []string{"", "k"} {
			refuses(t, what, p, lay(t, key, Frame{Way: ToClient, Seq: 1}), api.ErrArg)
			refuses(t, what, p, lay(t, key, Frame{Way: ToGate, Seq: 1}), api.ErrArg)
		}
		refuses(t, what, p, "", api.ErrArg)
		refuses(t, what, p, strings.Repeat("x", 30), api.ErrArg)
		counts(t, what, p, 0, 0)
	}
}

func TestP702NoPort(t *testing.T) {
	noPort(t, "a nil one", nil)
	noPort(t, "a zero one", &Port{})
	for _, way := range []int{0, -1, 3, 4, 255, 256, 257, 258, 1 + 1<<32, 2 + 1<<32, math.MaxInt, math.MinInt} {
		noPort(t, "one of way "+strconv.Itoa(way), New("k", way))
	}
}

func TestP702PortsAreTheirOwn(t *testing.T) {
	a, b, c := New("k", ToClient), New("k", ToClient), New("k", ToGate)
	one := sends(t, "one", a, "k", "x", ToClient, 1)
	sends(t, "one's second", a, "k", "x", ToClient, 2)
	same := sends(t, "another", b, "k", "x", ToClient, 1)
	takes(t, "one's", c, one, Frame{Way: ToClient, Seq: 1, Body: "x"}, 1)
	refuses(t, "the same from another", c, same, api.ErrOld)
	takes(t, "one that took none", New("k", ToGate), same, Frame{Way: ToClient, Seq: 1, Body: "x"}, 1)
	counts(t, "one", a, 2, 0)
	counts(t, "another", b, 1, 0)
	counts(t, "the third", c, 0, 1)
}

func TestP702AnswersAreTheirOwn(t *testing.T) {
	a, b, body := New("k", ToClient), New("k", ToGate), "a body"
	s, _ := a.Send(body)
	f, _ := b.Take(s)
	if p := unsafe.StringData(f.Body); p == unsafe.StringData(s[9:]) || p == unsafe.StringData(body) {
		t.Error("Take shares memory with what was handed in")
	}
}

// TestP702LongRun loses, doubles, turns and forges what goes both ways, and holds both Ports against a list of all that came.
func TestP702LongRun(t *testing.T) {
	type end struct {
		port *Port
		way  int
		sent []string
		came map[int]bool
		top  int
	}
	ends := [2]*end{{port: New("k", ToClient), way: ToClient, came: map[int]bool{}}, {port: New("k", ToGate), way: ToGate, came: map[int]bool{}}}
	seed, old, late := uint32(3), 0, 0
	draw := func(n int) int {
		seed = seed*1664525 + 1013904223
		return int(seed>>8) % n
	}
	for range 6000 {
		from, to := ends[0], ends[1]
		if draw(2) == 0 {
			from, to = to, from
		}
		if draw(3) == 0 || from.sent == nil {
			from.sent = append(from.sent, sends(t, "a run", from.port, "k", strconv.Itoa(draw(1000)), from.way, len(from.sent)+1))
			continue
		}
		n := len(from.sent) - draw(min(100, len(from.sent)))
		b := from.sent[n-1]
		if draw(8) == 0 {
			refuses(t, "forged", to.port, lay(t, "j", Frame{Way: from.way, Seq: n + 500}), api.ErrTag)
			refuses(t, "sent back", from.port, b, api.ErrForm)
		}
		if to.came[n] || n <= to.top-window.Wide {
			old++
			refuses(t, "in a run", to.port, b, api.ErrOld)
			continue
		}
		if n < to.top {
			late++
		}
		f, _ := Read("k", b)
		to.came[n], to.top = true, max(to.top, n)
		takes(t, "in a run", to.port, b, f, to.top)
	}
	if old < 100 || late < 100 {
		t.Errorf("only %d were old, %d late", old, late)
	}
}
