package states

import (
	"math"
	"slices"
	"strings"
	"testing"

	"pontoon/api"
	"pontoon/patch"
)

// far are numbers that no state has.
var far = []int{math.MinInt, math.MinInt + 1, -1 << 32, -9, -2, -1, 1 << 32, math.MaxInt - 1, math.MaxInt}

// texted makes a Valid screen of one row that begins with these runes.
func texted(text string) api.Screen {
	s := api.Screen{W: 4, H: 1, Cells: slices.Repeat([]api.Cell{{Rune: ' '}}, 4)}
	for i, r := range []rune(text) {
		s.Cells[i].Rune = r
	}
	return s
}

// nth makes a Valid screen that is of that number alone, of numbers below 0xd800.
func nth(n int) api.Screen {
	return texted(string([]rune{'n', rune(n % 0xd800), '!'}))
}

// turned makes another screen of one that stays as it is.
func turned(s api.Screen, turn func(s *api.Screen)) api.Screen {
	s.Cells = slices.Clone(s.Cells)
	turn(&s)
	return s
}

// alike holds two screens against each other, and says nothing by what is tested.
func alike(a, b api.Screen) bool {
	return a.W == b.W && a.H == b.H && a.X == b.X && a.Y == b.Y && a.Hidden == b.Hidden && slices.Equal(a.Cells, b.Cells)
}

// wrongs tells screens that are not Valid, each for one cause alone.
func wrongs() []api.Screen {
	l := []api.Screen{{}, {W: 4, H: 1}, {W: 1, H: 4, Cells: texted("").Cells}, {W: 4, H: -1, Cells: texted("").Cells}, {W: math.MaxInt, H: math.MaxInt}}
	for _, turn := range []func(s *api.Screen){
		func(s *api.Screen) { s.Cells = s.Cells[:3] },
		func(s *api.Screen) { s.Cells = append(s.Cells, s.Cells[0]) },
		func(s *api.Screen) { s.X = 4 },
		func(s *api.Screen) { s.X = -1 },
		func(s *api.Screen) { s.Y = 1 },
		func(s *api.Screen) { s.Cells[3].Rune = -1 },
		func(s *api.Screen) { s.Cells[0].Rune = 0x110000 },
		func(s *api.Screen) { s.Cells[1].Attr.Fg = 17 },
		func(s *api.Screen) { s.Cells[2].Attr.Bg = -1 },
	} {
		l = append(l, turned(texted("wxyz"), turn))
	}
	return l
}

// diff tells the difference of two Valid screens.
func diff(t *testing.T, a, b api.Screen) string {
	t.Helper()
	d, err := patch.Diff(a, b)
	if err != api.OK {
		t.Fatalf("no Diff of %+v and %+v: %d", a, b, err)
	}
	return d
}

// outModel does by the chapter's words what an Out does; its states stand by their numbers.
type outModel struct {
	kept      map[int]api.Screen
	base, top int
}

// leastBeside tells the least number that is neither 0 nor base.
func leastBeside(kept map[int]api.Screen, base int) int {
	least := math.MaxInt
	for n := range kept {
		if n != 0 && n != base {
			least = min(least, n)
		}
	}
	return least
}

// goBelow lets those below n go, but 0.
func goBelow(kept map[int]api.Screen, n int) {
	for k := range kept {
		if k != 0 && k < n {
			delete(kept, k)
		}
	}
}

func (m *outModel) add(s api.Screen, valid bool) int {
	if !valid || alike(s, m.kept[m.top]) {
		return m.top
	}
	if len(m.kept) == 9 { // 0, and eight beside it
		delete(m.kept, leastBeside(m.kept, m.base))
	}
	m.top++
	m.kept[m.top] = turned(s, func(*api.Screen) {})
	return m.top
}

func (m *outModel) ack(n int) bool {
	if n <= m.base || n > m.top {
		return false
	}
	m.base = 0
	if _, ok := m.kept[n]; ok {
		m.base = n
		goBelow(m.kept, n)
	}
	return true
}

// inModel does by the chapter's words what an In does.
type inModel struct {
	kept map[int]api.Screen
	top  int
}

// take is handed the screen that the difference makes of that base, or false, if it makes none.
func (m *inModel) take(base, n int, s api.Screen, fits bool) api.Errno {
	_, ok := m.kept[base]
	switch {
	case n <= m.top:
		return api.ErrOld
	case !ok:
		return api.ErrBase
	case !fits:
		return api.ErrForm
	}
	goBelow(m.kept, base)
	m.kept[n], m.top = turned(s, func(*api.Screen) {}), n
	for len(m.kept) > 9 {
		delete(m.kept, leastBeside(m.kept, 0))
	}
	return api.OK
}

// numbersOf tells the numbers that are kept, rising.
func numbersOf(kept map[int]api.Screen) []int {
	var l []int
	for n := range kept {
		l = append(l, n)
	}
	slices.Sort(l)
	return l
}

// outIs holds all that an Out tells to a model.
func outIs(t *testing.T, what any, o *Out, m *outModel) {
	t.Helper()
	if base, top, all := o.Base(), o.Top(), o.All(); base != m.base || top != m.top || !slices.Equal(all, numbersOf(m.kept)) {
		t.Errorf("%v: Base %d, Top %d, All %v, not %d, %d, %v", what, base, top, all, m.base, m.top, numbersOf(m.kept))
	}
	for _, n := range append(slices.Clone(far), numbersUpTo(m.top+2)...) {
		want, ok := m.kept[n]
		if s, is := o.Get(n); is != ok || !alike(s, want) || !is && s.Cells != nil {
			t.Errorf("%v: Get(%d) is %+v, %t, not %+v, %t", what, n, s, is, want, ok)
		}
	}
	if base, top, d := o.Patch(); base != m.base || top != m.top || d != diff(t, m.kept[m.base], m.kept[m.top]) {
		t.Errorf("%v: Patch is %d, %d, %x, not %d, %d, %x", what, base, top, d, m.base, m.top, diff(t, m.kept[m.base], m.kept[m.top]))
	}
}

// inIs holds all that an In tells to a model.
func inIs(t *testing.T, what any, i *In, m *inModel) {
	t.Helper()
	if top, all := i.Top(), i.All(); top != m.top || !slices.Equal(all, numbersOf(m.kept)) {
		t.Errorf("%v: Top %d, All %v, not %d, %v", what, top, all, m.top, numbersOf(m.kept))
	}
	if s := i.Screen(); !alike(s, m.kept[m.top]) {
		t.Errorf("%v: Screen is %+v, not %+v", what, s, m.kept[m.top])
	}
}

// numbersUpTo tells 0 to n.
func numbersUpTo(n int) []int {
	var l []int
	for k := range n + 1 {
		l = append(l, k)
	}
	return l
}

// randoms makes numbers from 0 on and below n that are the same each time.
func randoms(seed int) func(n int) int {
	x := uint32(seed)
	return func(n int) int {
		x = x*1664525 + 1013904223
		return int(x>>16) % n
	}
}

// drawn makes a Valid screen, one of few, so that one often comes again.
func drawn(next func(n int) int) api.Screen {
	if next(6) == 0 {
		return patch.Blank(2+next(3), 1+next(2))
	}
	s := texted(strings.Repeat("ab", 2)[next(2):][:next(4)])
	s.X, s.Hidden = next(2), next(4) == 0
	s.Cells[3].Attr.Bold = next(3) == 0
	return s
}
