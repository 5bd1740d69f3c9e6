package keys

import (
	"slices"
	"strings"
	"testing"

	"pontoon/api"
)

// reads tells whether Read answers that.
func reads(t *testing.T, b string, want []api.Event, err api.Errno) {
	t.Helper()
	if l, e := Read(b); e != err || !slices.Equal(l, want) {
		t.Errorf("Read(%s) is %v, %d, not %v, %d", text(b), l, e, want, err)
	}
}

// refuses tells whether Read answers an error, and nothing beside it.
func refuses(t *testing.T, b string, err api.Errno) {
	t.Helper()
	reads(t, b, nil, err)
}

// judged holds Read to what the model says of b.
func judged(t *testing.T, b string) api.Errno {
	t.Helper()
	want, err := readBy(b)
	reads(t, b, want, err)
	return err
}

func TestP2001ValidKeys(t *testing.T) {
	for n := range 300 {
		for _, s := range []string{"a", "\x00", "\xff", "\n"} {
			if ok := Valid(key(strings.Repeat(s, n))); ok != (n >= 1 && n <= 30) {
				t.Errorf("a Key of %d bytes %q: %t", n, s, ok)
			}
		}
	}
	if s := strings.Repeat("\u20ac", 10); !Valid(key(s)) || Valid(key(s+"a")) || Valid(key(s+"\u20ac")) {
		t.Error("what counts are bytes, not runes")
	}
}

func TestP2001ValidSizes(t *testing.T) {
	for w := -3; w < 300; w++ {
		for h := -3; h < 300; h++ {
			if ok := Valid(size(w, h)); ok != (w >= 2 && w <= 40 && h >= 1 && h <= 20) {
				t.Errorf("a Size of %d, %d: %t", w, h, ok)
			}
		}
	}
}

func TestP2001ValidOfWrongs(t *testing.T) {
	for _, e := range wrongs() {
		if Valid(e) {
			t.Errorf("%+v is Valid", e)
		}
	}
	for kind := -300; kind < 600; kind++ {
		if Valid(api.Event{Kind: kind, Text: "a"}) != (kind == 1) || Valid(api.Event{Kind: kind, W: 10, H: 4}) != (kind == 2) || Valid(api.Event{Kind: kind}) {
			t.Errorf("the Kind %d", kind)
		}
	}
}

func TestP2001Lay(t *testing.T) {
	for _, c := range []struct {
		l     []api.Event
		bytes string
	}{
		{nil, "\x00"},
		{[]api.Event{}, "\x00"},
		{[]api.Event{key("a")}, "\x01\x01\x01a"},
		{[]api.Event{key("\x00\xff\x80")}, "\x01\x01\x03\x00\xff\x80"},
		{[]api.Event{key(strings.Repeat("z", 30))}, "\x01\x01\x1e" + strings.Repeat("z", 30)},
		{[]api.Event{size(2, 1)}, "\x01\x02\x02\x01"},
		{[]api.Event{size(40, 20)}, "\x01\x02\x28\x14"},
		{[]api.Event{key("ab"), size(10, 4)}, "\x02\x01\x02ab\x02\x0a\x04"},
		{[]api.Event{size(10, 4), key("a"), key("a"), size(3, 2)}, "\x04\x02\x0a\x04\x01\x01a\x01\x01a\x02\x03\x02"},
		{slices.Repeat([]api.Event{key("a")}, 40), "\x28" + strings.Repeat("\x01\x01a", 40)},
		{slices.Repeat([]api.Event{key("a")}, 41), "\x29" + strings.Repeat("\x01\x01a", 41)},
		{slices.Repeat([]api.Event{size(2, 1)}, 127), "\x7f" + strings.Repeat("\x02\x02\x01", 127)},
		{slices.Repeat([]api.Event{size(2, 1)}, 128), "\x80\x01" + strings.Repeat("\x02\x02\x01", 128)},
	} {
		if b, err := Lay(c.l...); b != c.bytes || err != api.OK {
			t.Errorf("Lay(%v) is %s, %d", c.l, text(b), err)
		}
	}
}

func TestP2001LayOfWrongs(t *testing.T) {
	for _, e := range wrongs() {
		for _, l := range [][]api.Event{{e}, {e, key("a")}, {key("a"), e}, {size(10, 4), e, key("a")}, {e, e}, append(from(1, 200), e)} {
			if b, err := Lay(l...); b != "" || err != api.ErrArg {
				t.Errorf("Lay of %+v among %d is %s, %d", e, len(l), text(b), err)
			}
		}
	}
}

// Each event there may be is read as it was laid, alone and beside others.
func TestP2001ReadsWhatLayLays(t *testing.T) {
	var l []api.Event
	for n := 1; n <= 30; n++ {
		for c := range 256 {
			l = append(l, key(strings.Repeat(string([]byte{byte(c)}), n)))
		}
	}
	for w := 2; w <= 40; w++ {
		for h := 1; h <= 20; h++ {
			l = append(l, size(w, h))
		}
	}
	for _, e := range l {
		reads(t, laid(e), []api.Event{e}, api.OK)
	}
	for n := range 41 {
		for k := 0; k+n <= len(l); k += 487 {
			b, err := Lay(l[k : k+n]...)
			if b != laid(l[k:k+n]...) || err != api.OK {
				t.Errorf("Lay of %v is %s, %d", l[k:k+n], text(b), err)
			}
			reads(t, b, l[k:k+n], api.OK)
		}
	}
}

func TestP2001ReadOfTooMany(t *testing.T) {
	for _, e := range []api.Event{key("a"), size(10, 4), key(strings.Repeat("z", 30))} {
		for _, n := range []int{40, 41, 42, 80, 127, 128, 168, 256, 296, 1000} {
			l := slices.Repeat([]api.Event{e}, n)
			if n == 40 {
				reads(t, laid(l...), l, api.OK)
			} else {
				refuses(t, laid(l...), api.ErrForm)
			}
		}
	}
}

func TestP2001ReadShort(t *testing.T) {
	refuses(t, "", api.ErrShort)
	for _, l := range [][]api.Event{from(1, 1), from(1, 9), from(7, 7), from(1, 40), from(1, 41), from(1, 200), {key(strings.Repeat("z", 30)), size(40, 20)}} {
		b := laid(l...)
		for n := range len(b) {
			refuses(t, b[:n], api.ErrShort)
		}
	}
}

func TestP2001ReadForm(t *testing.T) {
	for _, b := range []string{
		"\x00\x00", "\x00x", "\x01\x01\x01aa", "\x01\x01\x01a\x01\x01a", "\x01\x02\x0a\x04\x00", // bytes that are left
		"\x80\x00", "\x81\x00\x01\x01a", "\x01\x01\x81\x00a", "\x01\x02\x8a\x00\x04", "\x01\x02\x0a\x84\x00", // numbers that could be shorter
		strings.Repeat("\xff", 10), "\x01\x01" + strings.Repeat("\xff", 10), "\x01\x02\x0a" + strings.Repeat("\x80", 9) + "\x01", // and those that are too long
		"\x01\x00", "\x01\x03", "\x01\xff", "\x01\x03\x01a", "\x01\x03\x0a\x04", "\x02\x03\x01\x01a", "\x02\x01\x01a\x03", // other Kinds
		"\x01\x01\x00", "\x02\x01\x01a\x01\x00", "\x01\x01\x1f" + strings.Repeat("a", 31), "\x01\x01\xac\x02" + strings.Repeat("a", 300), // lengths of texts
		"\x01\x02\x01\x04", "\x01\x02\x29\x04", "\x01\x02\x0a\x00", "\x01\x02\x0a\x15", "\x01\x02\x00\x00", "\x01\x02\x82\x01\x04", "\x01\x02\x0a\x81\x01", // sizes
		"\x01\x02\x82\x80\x80\x80\x10\x01", "\x01\x02\x02\x81\x80\x80\x80\x10", "\x01\x02" + strings.Repeat("\xff", 8) + "\x7f\x01", // and those that 32 bits would cut to another one
	} {
		refuses(t, b, api.ErrForm)
	}
}

// codec's errors count first: what ends too early is short, whatever is wrong in it.
func TestP2001ReadErrorsInOrder(t *testing.T) {
	for _, b := range []string{
		"\x02\x01\x00", "\x02\x02\x01\x01", "\x02\x01\x1f" + strings.Repeat("a", 31), "\x02\x02\x29\x04\x01\x01", "\x02\x00", "\x03\x03\x01\x01a",
		"\x29", "\x29\x01\x01a", "\x2a" + strings.Repeat("\x01\x01a", 41), "\xff\x01" + strings.Repeat("\x01\x01a", 254),
		"\x01\x02\x01", "\x01\x02\x29", "\x01\x02" + strings.Repeat("\xff", 9), "\x01\x01\x1f" + strings.Repeat("a", 30),
	} {
		refuses(t, b, api.ErrShort)
	}
	refuses(t, "\x02\x01\x00\x01\x81\x00", api.ErrForm)
	refuses(t, "\x03\x01\x01a\x02\x80\x00", api.ErrForm)
}

// Counts and lengths for which no bytes stand there, and whose sums would go beyond an int.
func TestP2001ReadOfFarNumbers(t *testing.T) {
	for _, n := range []string{strings.Repeat("\xff", 8) + "\x7f", strings.Repeat("\x80", 8) + "\x40", "\xff\xff\xff\xff\x0f", "\x80\x80\x80\x80\x10", "\x81\x80\x80\x80\x10", strings.Repeat("\xff", 9) + "\x01"} {
		err := api.ErrShort
		if len(n) > 9 {
			err = api.ErrForm
		}
		for _, b := range []string{n, n + "\x01\x01a", n + strings.Repeat("\x01\x01a", 60), n + strings.Repeat("\x00", 1000), "\x01\x01" + n, "\x01\x01" + n + "a", "\x02\x01\x01a\x01" + n + "abc", "\x01\x02\x0a" + n[:len(n)-1] + "\xff"} {
			refuses(t, b, err)
		}
		refuses(t, "\x01\x02"+n+"\x04", api.ErrForm)
		refuses(t, "\x01\x02\x0a"+n, api.ErrForm)
	}
}

// Each byte of what is laid turned to each other one, each byte that goes or comes in: as the model says.
func TestP2001ReadOfEachTurnedByte(t *testing.T) {
	good := 0
	for _, l := range [][]api.Event{{key("ab"), size(10, 4), key("c")}, {size(2, 1), size(40, 20)}, {key("\x01\x02\x02\x01"), size(3, 3)}, from(1, 40)} {
		b := laid(l...)
		for i := range len(b) {
			judged(t, b[:i]+b[i+1:])
			for n := range 256 {
				s := string([]byte{byte(n)})
				if judged(t, b[:i]+s+b[i+1:]) == api.OK {
					good++
				}
				judged(t, b[:i]+s+b[i:])
			}
		}
		for n := range 256 {
			refuses(t, b+string([]byte{byte(n)}), api.ErrForm)
		}
	}
	if good < 1000 {
		t.Errorf("only %d were read", good)
	}
}

// What Read takes, Lay lays just so, of all short bytes about the edges.
func TestP2001ReadOfShortBytes(t *testing.T) {
	edges := "\x00\x01\x02\x03\x14\x1e\x28\x29\x7f\x80\xff"
	var all func(b string, n int)
	all = func(b string, n int) {
		if judged(t, b) == api.OK {
			l, _ := Read(b)
			if again, err := Lay(l...); again != b || err != api.OK {
				t.Errorf("%s is laid again as %s, %d", text(b), text(again), err)
			}
		}
		if n == 0 || t.Failed() {
			return
		}
		for i := range len(edges) {
			all(b+edges[i:i+1], n-1)
		}
	}
	all("", 6)
}

func TestP2001AnswersAreNew(t *testing.T) {
	l := []api.Event{key("a"), size(10, 4)}
	b, _ := Lay(l...)
	if l[0] != key("a") || l[1] != size(10, 4) {
		t.Errorf("Lay changed what it was handed: %v", l)
	}
	one, _ := Read(b)
	one[0], one[1] = key("x"), key("y")
	reads(t, b, l, api.OK)
}
