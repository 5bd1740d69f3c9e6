package patch

import (
	"strings"
	"testing"

	"pontoon/api"
)

// lays tells whether Diff answers that.
func lays(t *testing.T, what any, a, b api.Screen, want string, err api.Errno) {
	t.Helper()
	if d, e := Diff(a, b); d != want || e != err {
		t.Errorf("%v: Diff is %x, %d, not %x, %d", what, d, e, want, err)
	}
}

func TestP1802Diff(t *testing.T) {
	abcd := texted(4, "abcd")
	for _, c := range []struct {
		what string
		a, b api.Screen
		want string
	}{
		{"itself", abcd, abcd, "\x04\x01\x00\x00\x00\x00"},
		{"the first", abcd, texted(4, "xbcd"), "\x04\x01\x00\x00\x00\x01" + "\x00\x01x\x00\x00\x00"},
		{"the last", abcd, texted(4, "abcx"), "\x04\x01\x00\x00\x00\x01" + "\x03\x01x\x00\x00\x00"},
		{"next to each other", abcd, texted(4, "axyd"), "\x04\x01\x00\x00\x00\x01" + "\x01\x02x\x00\x00\x00y\x00\x00\x00"},
		{"one between", abcd, texted(4, "xbyd"), "\x04\x01\x00\x00\x00\x02" + "\x00\x01x\x00\x00\x00" + "\x01\x01y\x00\x00\x00"},
		{"both ends", abcd, texted(4, "xbcy"), "\x04\x01\x00\x00\x00\x02" + "\x00\x01x\x00\x00\x00" + "\x02\x01y\x00\x00\x00"},
		{"all", abcd, texted(4, "wxyz"), "\x04\x01\x00\x00\x00\x01" + "\x00\x04w\x00\x00\x00x\x00\x00\x00y\x00\x00\x00z\x00\x00\x00"},
		{"from row to row", texted(2, "abcd"), texted(2, "axyd"), "\x02\x02\x00\x00\x00\x01" + "\x01\x02x\x00\x00\x00y\x00\x00\x00"},
		{"another size, the same cells", abcd, texted(2, "abcd"), "\x02\x02\x00\x00\x00\x01" + "\x00\x04a\x00\x00\x00b\x00\x00\x00c\x00\x00\x00d\x00\x00\x00"},
		{"a lesser size", abcd, texted(3, "abc"), "\x03\x01\x00\x00\x00\x01" + "\x00\x03a\x00\x00\x00b\x00\x00\x00c\x00\x00\x00"},
		{"a greater size", texted(2, "ab"), texted(2, "abcd"), "\x02\x02\x00\x00\x00\x01" + "\x00\x04a\x00\x00\x00b\x00\x00\x00c\x00\x00\x00d\x00\x00\x00"},
		{"the cursor", texted(2, "abcd"), turned(texted(2, "abcd"), func(s *api.Screen) { s.X, s.Y = 0, 1 }), "\x02\x02\x00\x01\x00\x00"},
		{"hidden", abcd, turned(abcd, func(s *api.Screen) { s.X, s.Hidden = 3, true }), "\x04\x01\x03\x00\x01\x00"},
		{"runes and attributes", texted(2, "ab"), api.Screen{W: 2, H: 1, Cells: []api.Cell{{Rune: 0x10ffff, Attr: api.Attr{Fg: 16, Bold: true}}, {Rune: 'b', Attr: api.Attr{Inverse: true}}}}, "\x02\x01\x00\x00\x00\x01" + "\x00\x02\xff\xff\x43\x10\x00\x01b\x00\x00\x04"},
	} {
		lays(t, c.what, c.a, c.b, c.want, api.OK)
	}
	// Only b's cursor is told.
	lays(t, "a's cursor", turned(abcd, func(s *api.Screen) { s.X, s.Hidden = 3, true }), abcd, "\x04\x01\x00\x00\x00\x00", api.OK)
}

func TestP1802DiffOfWhatIsNotValid(t *testing.T) {
	good := lettered(3, 2)
	for i, s := range wrongs() {
		lays(t, i, s, good, "", api.ErrArg)
		lays(t, i, good, s, "", api.ErrArg)
		lays(t, i, s, s, "", api.ErrArg)
		for _, n := range []int{Size(s, good), Size(good, s), Size(s, s)} {
			if n != 0 {
				t.Errorf("%d: Size is %d", i, n)
			}
		}
	}
}

// Whichever places are changed, each run is as long as it may be, and told from the end of the one ahead.
func TestP1802DiffOfEachSetOfPlaces(t *testing.T) {
	a := lettered(4, 3)
	for set := range 1 << 12 {
		b := turned(a, func(s *api.Screen) {
			for place := range s.Cells {
				if set>>place%2 == 1 {
					s.Cells[place].Attr.Bg = 16
				}
			}
		})
		lays(t, set, a, b, diffBytes(a, b), api.OK)
	}
}

// Gaps, lengths and runes of more than one byte.
func TestP1802DiffOfGreatOnes(t *testing.T) {
	type part struct {
		from, to int
		head     string // what is told of it ahead of its cells
	}
	a := Blank(40, 20)
	for _, parts := range [][]part{
		{{799, 800, "\x9f\x06\x01"}},
		{{0, 800, "\x00\xa0\x06"}},
		{{127, 128, "\x7f\x01"}, {255, 256, "\x7f\x01"}, {384, 385, "\x80\x01\x01"}},
		{{0, 127, "\x00\x7f"}, {128, 256, "\x01\x80\x01"}},
	} {
		b, want := Blank(40, 20), "\x28\x14\x00\x00\x00"+string([]byte{byte(len(parts))})
		for _, p := range parts {
			want += p.head + strings.Repeat("\xac\x41\x00\x00\x00", p.to-p.from)
			for place := p.from; place < p.to; place++ {
				b.Cells[place].Rune = 0x20ac
			}
		}
		lays(t, parts, a, b, want, api.OK)
		makes(t, parts, a, want, b)
	}
}

// As many runs as there may be: each second place is changed.
func TestP1802DiffOfManyRuns(t *testing.T) {
	b, want := Blank(40, 20), "\x28\x14\x00\x00\x00\x90\x03\x00\x01.\x00\x00\x00"+strings.Repeat("\x01\x01.\x00\x00\x00", 399)
	for place := 0; place < 800; place += 2 {
		b.Cells[place].Rune = '.'
	}
	lays(t, "each second one", Blank(40, 20), b, want, api.OK)
	makes(t, "each second one", Blank(40, 20), want, b)
}

func TestP1802DiffChangesNothing(t *testing.T) {
	for seed := range 100 {
		next := randoms(seed)
		a := drawn(lettered(3, 2), next)
		b := drawn(a, next)
		wasA, wasB := copied(a), copied(b)
		Diff(a, b)
		Size(a, b)
		Same(a, b)
		Valid(a)
		if !alike(a, wasA) || !alike(b, wasB) {
			t.Errorf("what was handed in is %+v, %+v", a, b)
		}
	}
}

func TestP1803Size(t *testing.T) {
	abcd := texted(4, "abcd")
	for _, c := range []struct {
		a, b api.Screen
		want int
	}{
		{abcd, abcd, 0}, {abcd, texted(4, "xbyz"), 3}, {abcd, texted(4, "abcx"), 1}, {abcd, texted(4, "wxyz"), 4},
		{abcd, texted(2, "abcd"), 4}, {texted(2, "abcd"), abcd, 4}, {abcd, texted(3, "abc"), 3}, {texted(3, "abc"), abcd, 4},
		{abcd, turned(abcd, func(s *api.Screen) { s.X, s.Hidden = 2, true }), 0},
		{abcd, turned(abcd, func(s *api.Screen) { s.Cells[1].Attr.Under = true }), 1},
		{Blank(2, 1), Blank(40, 20), 800}, {Blank(40, 20), Blank(2, 1), 2}, {Blank(40, 20), Blank(40, 20), 0},
	} {
		if n := Size(c.a, c.b); n != c.want {
			t.Errorf("Size of %+v and %+v is %d, not %d", c.a, c.b, n, c.want)
		}
	}
}
