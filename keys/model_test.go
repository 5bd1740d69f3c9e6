package keys

import (
	"encoding/binary"
	"fmt"
	"math"
	"slices"
	"strconv"
	"strings"
	"testing"

	"pontoon/api"
)

// far are numbers that no event has, and no size.
var far = []int{math.MinInt, math.MinInt + 1, math.MinInt + 50, -1 << 32, -256, -41, -40, -39, -2, -1, 1 << 32, 1<<32 + 2, 1 << 62, math.MaxInt - 41, math.MaxInt - 1, math.MaxInt}

func key(text string) api.Event { return api.Event{Kind: 1, Text: text} }

func size(w, h int) api.Event { return api.Event{Kind: 2, W: w, H: h} }

// nth makes a Valid event that is of that number alone, but for every seventh one, which is a size.
func nth(n int) api.Event {
	if n%7 == 0 {
		return size(2+n%39, 1+n%20)
	}
	return key("n" + strconv.Itoa(n))
}

// from makes the events of the numbers first to last.
func from(first, last int) []api.Event {
	var l []api.Event
	for n := first; n <= last; n++ {
		l = append(l, nth(n))
	}
	return l
}

// wrongs tells events that are not Valid, each for one cause alone.
func wrongs() []api.Event {
	l := []api.Event{
		{}, {Text: "a"}, {W: 10, H: 4}, {Kind: 3, Text: "a"}, {Kind: 3, W: 10, H: 4}, {Kind: -1, Text: "a"}, {Kind: 257, Text: "a"}, {Kind: 258, W: 10, H: 4},
		key(""), key(strings.Repeat("a", 31)), key(strings.Repeat("a", 256)), key(strings.Repeat("\xff", 1000)),
		{Kind: 1, Text: "a", W: 1}, {Kind: 1, Text: "a", H: 1}, {Kind: 1, Text: "a", W: 10, H: 4}, {Kind: 1, W: 10, H: 4},
		{Kind: 2, Text: "a", W: 10, H: 4}, {Kind: 2, Text: "a"}, {Kind: 2},
		size(1, 4), size(41, 4), size(0, 4), size(10, 0), size(10, 21), size(1, 1), size(41, 21), size(20, 40),
	}
	for _, n := range far {
		l = append(l, size(n, 4), size(10, n), api.Event{Kind: 1, Text: "a", W: n}, api.Event{Kind: 1, Text: "a", H: n}, api.Event{Kind: n, Text: "a"}, api.Event{Kind: n, W: 10, H: 4})
	}
	return l
}

// may tells by the chapter's words whether an event may be.
func may(e api.Event) bool {
	isKey := e.Kind == 1 && len(e.Text) > 0 && len(e.Text) < 31 && e.W == 0 && e.H == 0
	isSize := e.Kind == 2 && len(e.Text) == 0 && e.W > 1 && e.W < 41 && e.H > 0 && e.H < 21
	return isKey || isSize
}

// laid lays events by the chapter's words, be they Valid or not.
func laid(l ...api.Event) string {
	b := binary.AppendUvarint(nil, uint64(len(l)))
	for _, e := range l {
		b = append(b, byte(e.Kind))
		switch e.Kind {
		case 1:
			b = binary.AppendUvarint(b, uint64(len(e.Text)))
			b = append(b, e.Text...)
		case 2:
			b = binary.AppendUvarint(b, uint64(e.W))
			b = binary.AppendUvarint(b, uint64(e.H))
		}
	}
	return string(b)
}

// reader reads bytes as chapter 1 has it; its first error stays.
type reader struct {
	rest string
	err  api.Errno
}

func (r *reader) bytes(n int) string {
	if r.err == api.OK && n > len(r.rest) {
		r.err = api.ErrShort
	}
	if r.err != api.OK {
		return ""
	}
	s := r.rest[:n]
	r.rest = r.rest[n:]
	return s
}

func (r *reader) byte() int {
	if s := r.bytes(1); s != "" {
		return int(s[0])
	}
	return 0
}

func (r *reader) num() int {
	n := 0
	for k := 0; ; k++ {
		c := r.byte()
		if r.err == api.OK && (k == 9 || k > 0 && c == 0) {
			r.err = api.ErrForm
		}
		if r.err != api.OK {
			return 0
		}
		n |= c % 128 << (7 * k)
		if c < 128 {
			return n
		}
	}
}

// readBy tells by the chapter's words what Read answers: codec's error first, whatever the events are.
func readBy(b string) ([]api.Event, api.Errno) {
	r := &reader{rest: b}
	var l []api.Event
	right := true
	for n := r.num(); n > 0 && r.err == api.OK; n-- {
		e := api.Event{Kind: r.byte()}
		switch e.Kind {
		case 1:
			e.Text = r.bytes(r.num())
		case 2:
			e.W, e.H = r.num(), r.num()
		}
		right = right && may(e)
		l = append(l, e)
	}
	if r.err != api.OK {
		return nil, r.err
	}
	if r.rest != "" || !right || len(l) > 40 {
		return nil, api.ErrForm
	}
	return l, api.OK
}

// outModel does by the chapter's words what an Out does; all were added, the event n at n - 1.
type outModel struct {
	all   []api.Event
	acked int
}

func (m *outModel) add(l ...api.Event) int {
	for n, e := range l {
		if !may(e) || len(m.all)-m.acked == 40 {
			return n
		}
		m.all = append(m.all, e)
	}
	return len(l)
}

func (m *outModel) ack(n int) int {
	if n > len(m.all) || n <= m.acked {
		return 0
	}
	went := n - m.acked
	m.acked = n
	return went
}

// inModel does by the chapter's words what an In does; all came, the event n at n - 1.
type inModel struct {
	all  []api.Event
	done int
}

func (m *inModel) take(first int, l ...api.Event) int {
	const beyond = 1 << 40 // no number of a test is
	n := min(max(first, -beyond), beyond)
	for _, e := range l {
		isNext := n == len(m.all)+1
		if n > len(m.all) && !(isNext && may(e) && len(m.all)-m.done < 40) {
			break
		}
		if isNext {
			m.all = append(m.all, e)
		}
		n++
	}
	return len(m.all)
}

func (m *inModel) next() (api.Event, bool) {
	if m.done == len(m.all) {
		return api.Event{}, false
	}
	m.done++
	return m.all[m.done-1], true
}

// outIs holds all that an Out tells to a model.
func outIs(t *testing.T, what any, o *Out, m *outModel) {
	t.Helper()
	if o.Top() != len(m.all) || o.Acked() != m.acked {
		t.Errorf("%v: Top %d, Acked %d, not %d, %d", what, o.Top(), o.Acked(), len(m.all), m.acked)
	}
	waiting, number := m.all[m.acked:], m.acked+1
	if len(waiting) == 0 {
		number = 0
	}
	for _, most := range append(slices.Clone(far), 0, 1, 2, 20, len(waiting)-1, len(waiting), len(waiting)+1, 39, 40, 41) {
		want := waiting[:min(max(most, 0), len(waiting))]
		if n, l := o.Wait(most); n != number || !slices.Equal(l, want) {
			t.Errorf("%v: Wait(%d) is %d, %v, not %d, %v", what, most, n, l, number, want)
		}
	}
}

// inIs holds all that an In tells to a model, but what Next would tell.
func inIs(t *testing.T, what any, i *In, m *inModel) {
	t.Helper()
	if i.Got() != len(m.all) || i.Done() != m.done || i.Len() != len(m.all)-m.done {
		t.Errorf("%v: Got %d, Done %d, Len %d, not %d, %d, %d", what, i.Got(), i.Done(), i.Len(), len(m.all), m.done, len(m.all)-m.done)
	}
}

// goesThrough holds all that Next tells to a model, until nothing is kept.
func goesThrough(t *testing.T, what any, i *In, m *inModel) {
	t.Helper()
	for is := true; is; {
		var want api.Event
		want, is = m.next()
		if e, ok := i.Next(); e != want || ok != is {
			t.Errorf("%v: Next is %v, %t, not %v, %t", what, e, ok, want, is)
			return
		}
		inIs(t, what, i, m)
	}
}

// randoms makes numbers from 0 on and below n that are the same each time.
func randoms(seed int) func(n int) int {
	x := uint32(seed)
	return func(n int) int {
		x = x*1664525 + 1013904223
		return int(x>>16) % n
	}
}

// text tells what bytes are, short enough to be read.
func text(b string) string { return fmt.Sprintf("%.120x (%d)", b, len(b)) }
