package cell

import (
	"math"
	"strings"
	"testing"
	"unicode/utf8"

	"pontoon/api"
	"pontoon/codec"
)

// reads tells whether Read answers that.
func reads(t *testing.T, b string, want api.Cell, size int, err api.Errno) {
	t.Helper()
	if c, n, e := Read(b); c != want || n != size || e != err {
		t.Errorf("Read(%x) is %+v, %d, %d, not %+v, %d, %d", b, c, n, e, want, size, err)
	}
}

// refuses tells whether Read answers an error, and zero values beside it.
func refuses(t *testing.T, b string, err api.Errno) {
	t.Helper()
	reads(t, b, api.Cell{}, 0, err)
}

// attrs goes through all Attrs that may be.
func attrs(each func(a api.Attr)) {
	for fg := range 17 {
		for bg := range 17 {
			for marks := range 8 {
				each(api.Attr{Fg: fg, Bg: bg, Bold: marks%2 == 1, Under: marks/2%2 == 1, Inverse: marks/4 == 1})
			}
		}
	}
}

// far are numbers that are no colors.
var far = []int{-1, -2, -16, -256, 17, 18, 255, 256, 272, 1 << 32, 1<<32 + 1, math.MinInt, math.MaxInt}

func TestP1401Valid(t *testing.T) {
	attrs(func(a api.Attr) {
		if !Valid(a) {
			t.Errorf("%+v is not Valid", a)
		}
	})
	for _, n := range far {
		for _, a := range []api.Attr{{Fg: n}, {Bg: n}, {Fg: n, Bg: n}, {Fg: 16, Bg: n, Bold: true}, {Fg: n, Bg: 1, Under: true, Inverse: true}} {
			if Valid(a) {
				t.Errorf("%+v is Valid", a)
			}
		}
	}
}

func TestP1401Blank(t *testing.T) {
	attrs(func(a api.Attr) {
		if c := Blank(a); c != (api.Cell{Rune: 32, Attr: api.Attr{Bg: a.Bg}}) {
			t.Errorf("Blank(%+v) is %+v", a, c)
		}
	})
}

func TestP1402Lay(t *testing.T) {
	for _, c := range []struct {
		cell  api.Cell
		bytes string
	}{
		{api.Cell{}, "\x00\x00\x00\x00"},
		{api.Cell{Rune: 32}, " \x00\x00\x00"},
		{api.Cell{Rune: 'a', Attr: api.Attr{Fg: 1, Bg: 2}}, "a\x01\x02\x00"},
		{api.Cell{Rune: 'a', Attr: api.Attr{Fg: 16, Bg: 15}}, "a\x10\x0f\x00"},
		{api.Cell{Rune: 'a', Attr: api.Attr{Bold: true}}, "a\x00\x00\x01"},
		{api.Cell{Rune: 'a', Attr: api.Attr{Under: true}}, "a\x00\x00\x02"},
		{api.Cell{Rune: 'a', Attr: api.Attr{Inverse: true}}, "a\x00\x00\x04"},
		{api.Cell{Rune: 'a', Attr: api.Attr{Bold: true, Under: true, Inverse: true}}, "a\x00\x00\x07"},
		{api.Cell{Rune: 127}, "\x7f\x00\x00\x00"},
		{api.Cell{Rune: 128}, "\x80\x01\x00\x00\x00"},
		{api.Cell{Rune: 0x20ac}, "\xac\x41\x00\x00\x00"},
		{api.Cell{Rune: 0xd800}, "\x80\xb0\x03\x00\x00\x00"},
		{api.Cell{Rune: 0xfffd}, "\xfd\xff\x03\x00\x00\x00"},
		{api.Cell{Rune: 0x10ffff}, "\xff\xff\x43\x00\x00\x00"},
		{api.Cell{Rune: 0x110000}, "\x80\x80\x44\x00\x00\x00"},
		{api.Cell{Rune: math.MaxInt32}, "\xff\xff\xff\xff\x07\x00\x00\x00"},
		{api.Cell{Rune: -1}, "\xfd\xff\x03\x00\x00\x00"},
		{api.Cell{Rune: math.MinInt32, Attr: api.Attr{Fg: 3, Under: true}}, "\xfd\xff\x03\x03\x00\x02"},
	} {
		if got := Lay(c.cell); got != c.bytes {
			t.Errorf("Lay(%+v) is %x, not %x", c.cell, got, c.bytes)
		}
	}
}

func TestP1402LayOfWhatIsNotValid(t *testing.T) {
	for _, n := range far {
		for _, a := range []api.Attr{{Fg: n}, {Bg: n}, {Fg: 1, Bg: n}, {Fg: n, Bg: 16, Bold: true}} {
			for _, r := range []rune{'a', -1, 0x110000} {
				if got := Lay(api.Cell{Rune: r, Attr: a}); got != "" {
					t.Errorf("%+v is laid as %x", a, got)
				}
			}
		}
	}
}

// Each Attr, and runes of each length, are read as they were laid, whatever stands behind them.
func TestP1402ReadsWhatLayLays(t *testing.T) {
	for _, r := range []rune{0, 1, 32, 127, 128, 0x3fff, 0x4000, 0xd800, 0xdfff, 0xfffd, 0x10fffe, 0x10ffff} {
		attrs(func(a api.Attr) {
			c := api.Cell{Rune: r, Attr: a}
			b := Lay(c)
			reads(t, b, c, len(b), api.OK)
			reads(t, b+"\x00", c, len(b), api.OK)
			reads(t, b+b, c, len(b), api.OK)
			reads(t, b+strings.Repeat("\xff", 20), c, len(b), api.OK)
		})
	}
	for _, r := range []rune{-1, math.MinInt32} {
		reads(t, Lay(api.Cell{Rune: r}), api.Cell{Rune: 0xfffd}, 6, api.OK)
	}
}

func TestP1402ReadShort(t *testing.T) {
	for _, r := range []rune{0, 'a', 128, 0x20ac, 0x10ffff} {
		b := Lay(api.Cell{Rune: r, Attr: api.Attr{Fg: 16, Bg: 16, Bold: true, Under: true, Inverse: true}})
		for n := range len(b) {
			refuses(t, b[:n], api.ErrShort)
		}
	}
	refuses(t, "", api.ErrShort)
	refuses(t, "\x80", api.ErrShort)
	refuses(t, strings.Repeat("\xff", 9), api.ErrShort)
}

func TestP1402ReadForm(t *testing.T) {
	for _, b := range []string{
		"\x80\x00\x00\x00\x00", "\xe1\x00\x00\x00\x00", "\xff\xff\x80\x00\x01\x01\x01", // a number that could be shorter
		strings.Repeat("\x80", 9) + "\x01\x00\x00\x00", strings.Repeat("\xff", 10), // one that is too long
		"\x80\x80\x44\x00\x00\x00", "\x81\x80\x44\x00\x00\x00", "\x80\x80\x80\x01\x00\x00\x00", // runes above the last one
		"\x80\x80\x80\x80\x10\x00\x00\x00", "\xe1\x80\x80\x80\x10\x00\x00\x00", strings.Repeat("\xff", 8) + "\x7f\x00\x00\x00", // and those that 32 bits would cut to another one
		"\x80\x80\x80\x80\x08\x00\x00\x00", "\xff\xff\xff\xff\x0f\x00\x00\x00",
	} {
		refuses(t, b, api.ErrForm)
		refuses(t, b+"more", api.ErrForm)
	}
	for n := 17; n < 256; n++ {
		s := string([]byte{byte(n)})
		refuses(t, "a"+s+"\x00\x00", api.ErrForm)
		refuses(t, "a\x00"+s+"\x00", api.ErrForm)
		refuses(t, "a"+s+s+"\x07more", api.ErrForm)
	}
	for n := 8; n < 256; n++ {
		s := string([]byte{byte(n)})
		refuses(t, "a\x00\x00"+s, api.ErrForm)
		refuses(t, "a\x10\x10"+s+"more", api.ErrForm)
	}
}

// codec's error counts first: what ends too early is short, whatever is wrong in it.
func TestP1402ReadErrorsInOrder(t *testing.T) {
	for _, b := range []string{"a\x11", "a\xff\xff", "a\x00\x11", "\x80\x80\x44", "\x80\x80\x44\x11\x11", strings.Repeat("\xff", 8) + "\x7f"} {
		refuses(t, b, api.ErrShort)
	}
	for _, b := range []string{"\x80\x00", "\x80\x00\x11", strings.Repeat("\xff", 10)} {
		refuses(t, b, api.ErrForm)
	}
}

// What Read takes, Lay lays again just so, and what it refuses is nothing that Lay lays of a rune that may be.
func TestP1402EachFirstBytes(t *testing.T) {
	edges := "\x00\x01\x07\x08\x0f\x10\x11\x20\x43\x44\x7f\x80\xac\xff"
	var all func(b string, n int)
	all = func(b string, n int) {
		c, size, err := Read(b)
		in := codec.On(b)
		r, fg, bg, marks, left := in.Num(), in.Byte(), in.Byte(), in.Byte(), in.Left()
		short := in.Raw(left)
		want := in.End()
		if want == api.OK && (r > 0x10ffff || fg > 16 || bg > 16 || marks > 7) {
			want = api.ErrForm
		}
		switch {
		case err != want:
			t.Errorf("Read(%x): %d, not %d", b, err, want)
		case err != api.OK && (c != api.Cell{} || size != 0):
			t.Errorf("Read(%x): %+v, %d beside an error", b, c, size)
		case err == api.OK && (Lay(c) != b[:size] || b[size:] != short || int(c.Rune) != r):
			t.Errorf("Read(%x): %+v, %d", b, c, size)
		}
		if n == 0 {
			return
		}
		for i := range len(edges) {
			all(b+edges[i:i+1], n-1)
		}
	}
	all("", 5)
}

func TestP1402Show(t *testing.T) {
	if s := Show(); s != "" {
		t.Errorf("nothing is shown as %q", s)
	}
	if s := Show([]api.Cell{}...); s != "" {
		t.Errorf("nothing is shown as %q", s)
	}
	l := []api.Cell{{Rune: 'a', Attr: full}, {Rune: 0x20ac}, {Rune: 32}, {Rune: 0}, {Rune: 0x1f600, Attr: api.Attr{Fg: 99}}, {Rune: 0x10ffff}}
	const want = "a\u20ac \x00\U0001f600\U0010ffff"
	if s := Show(l...); s != want {
		t.Errorf("%q, not %q", s, want)
	}
	if l[0] != (api.Cell{Rune: 'a', Attr: full}) || l[5].Rune != 0x10ffff {
		t.Errorf("Show changed what it was handed: %+v", l)
	}
}

// What is no rune is shown as utf's Bad is.
func TestP1402ShowOfNoRunes(t *testing.T) {
	for _, r := range []rune{-1, -5, math.MinInt32, 0x110000, math.MaxInt32, 0xd800, 0xdbff, 0xdc00, 0xdfff} {
		if s := Show(api.Cell{Rune: 'a'}, api.Cell{Rune: r}, api.Cell{Rune: 'b'}); s != "a\xef\xbf\xbdb" {
			t.Errorf("%x is shown as %x", r, s)
		}
	}
	for r := rune(0); r <= 0x10ffff; r += 37 {
		if s := Show(api.Cell{Rune: r}); s != string(r) || !utf8.ValidString(s) {
			t.Errorf("%x is shown as %x", r, s)
		}
	}
}
