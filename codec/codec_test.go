package codec

import (
	"math"
	"strconv"
	"strings"
	"testing"

	"pontoon/api"
)

// laid holds what an Out ends with against the bytes that it should have; with an error there are none.
func laid(t *testing.T, what string, o *Out, bytes string, err api.Errno) {
	t.Helper()
	if s, e := o.End(); s != bytes || e != err {
		t.Errorf("%s: End is %x, %d, not %x, %d", what, s, e, bytes, err)
	}
}

// ended holds what an In has at its end against what it should have.
func ended(t *testing.T, what string, i *In, left int, err api.Errno) {
	t.Helper()
	if n := i.Left(); n != left {
		t.Errorf("%s: Left is %d, not %d", what, n, left)
	}
	if e := i.End(); e != err {
		t.Errorf("%s: End is %d, not %d", what, e, err)
	}
}

// mute asks an In for everything, none of which it may answer any more.
func mute(t *testing.T, what string, i *In) {
	t.Helper()
	if n, b, s, r, z, l := i.Num(), i.Byte(), i.Text(), i.Raw(1), i.Raw(-1), i.Left(); n != 0 || b != 0 || s != "" || r != "" || z != "" || l != 0 {
		t.Errorf("%s: answers %d %d %q %q %q %d", what, n, b, s, r, z, l)
	}
}

func TestP101Out(t *testing.T) {
	tests := []struct {
		what  string
		out   *Out
		bytes string
		err   api.Errno
	}{
		{"a zero one", &Out{}, "", api.OK},
		{"the example", new(Out).Num(1, 300).Text("a"), "\x01\xac\x02\x01a", api.OK},
		{"numbers about seven bits", new(Out).Num(0, 127, 128, 255), "\x00\x7f\x80\x01\xff\x01", api.OK},
		{"numbers about fourteen bits", new(Out).Num(16383, 16384), "\xff\x7f\x80\x80\x01", api.OK},
		{"the greatest number", new(Out).Num(math.MaxInt), strings.Repeat("\xff", 8) + "\x7f", api.OK},
		{"a number below 0", new(Out).Num(-1), "", api.ErrArg},
		{"the least number", new(Out).Num(math.MinInt), "", api.ErrArg},
		{"a number below 0 among others", new(Out).Num(1, -1, 2), "", api.ErrArg},
		{"bytes", new(Out).Byte(0, 128, 255), "\x00\x80\xff", api.OK},
		{"a byte below 0", new(Out).Byte(1, -1), "", api.ErrArg},
		{"a byte above 255", new(Out).Byte(256, 1), "", api.ErrArg},
		{"texts", new(Out).Text("", "ab", "\x00\xff"), "\x00\x02ab\x02\x00\xff", api.OK},
		{"a long text", new(Out).Text(strings.Repeat("b", 128)), "\x80\x01" + strings.Repeat("b", 128), api.OK},
		{"raw bytes", new(Out).Raw("x", "", "y\xff"), "xy\xff", api.OK},
		{"nothing of each", new(Out).Num().Byte().Text().Raw(), "", api.OK},
		{"all of a list that is spread", new(Out).Num([]int{1, 2}...).Raw([]string{"a", "b"}...), "\x01\x02ab", api.OK},
	}
	for _, c := range tests {
		laid(t, c.what, c.out, c.bytes, c.err)
	}
}

func TestP101EachAnswersTheOut(t *testing.T) {
	o := &Out{}
	if o.Num(1) != o || o.Byte(1) != o || o.Text("a") != o || o.Raw("a") != o {
		t.Error("another Out is answered")
	}
	if o.Num(-1) != o || o.Num(1) != o || o.Byte(1) != o || o.Text("a") != o || o.Raw("a") != o {
		t.Error("another Out is answered with an error")
	}
}

func TestP101TheErrorStays(t *testing.T) {
	for _, o := range []*Out{new(Out).Num(7, -1), new(Out).Byte(7, 256)} {
		laid(t, "with an error", o, "", api.ErrArg)
		laid(t, "what comes behind it", o.Num(1).Byte(2).Text("a").Raw("b").Num(-2).Byte(-2), "", api.ErrArg)
		laid(t, "once more", o, "", api.ErrArg)
	}
}

func TestP101EndEndsNothing(t *testing.T) {
	o := new(Out).Num(5)
	laid(t, "End", o, "\x05", api.OK)
	laid(t, "once more", o, "\x05", api.OK)
	laid(t, "with more", o.Raw("x"), "\x05x", api.OK)
	first, _ := o.End()
	o.Raw("yz")
	if first != "\x05x" {
		t.Errorf("an answer became %q", first)
	}
}

func TestP102Num(t *testing.T) {
	eight := strings.Repeat("\xff", 8)
	tests := []struct {
		bytes     string
		num, left int
		err       api.Errno
	}{
		{"\x00", 0, 0, api.OK},
		{"\x7f", 127, 0, api.OK},
		{"\xac\x02", 300, 0, api.OK},
		{"\x80\x80\x01", 16384, 0, api.OK},
		{eight + "\x7f", math.MaxInt, 0, api.OK},
		{strings.Repeat("\x80", 8) + "\x01", 1 << 56, 0, api.OK},
		{"\x05x", 5, 1, api.ErrForm},
		{"\x00\x00", 0, 1, api.ErrForm},
		{"", 0, 0, api.ErrShort},
		{"\x80", 0, 0, api.ErrShort},
		{eight, 0, 0, api.ErrShort},
		{eight + "\xff", 0, 0, api.ErrShort},
		{eight + "\xff\x01", 0, 0, api.ErrForm},
		{eight + "\xff\x00", 0, 0, api.ErrForm},
		{eight + "\xff\xff\xff", 0, 0, api.ErrForm},
		{eight + "\x00", 0, 0, api.ErrForm},
		{"\x80\x00", 0, 0, api.ErrForm},
		{"\xff\x80\x00abc", 0, 0, api.ErrForm},
	}
	for _, c := range tests {
		i := On(c.bytes)
		if n := i.Num(); n != c.num {
			t.Errorf("%x: Num is %d, not %d", c.bytes, n, c.num)
		}
		ended(t, strconv.QuoteToASCII(c.bytes), i, c.left, c.err)
	}
}

func TestP102ByteTextRaw(t *testing.T) {
	i := On("\x07\xff\x02ab\x00cde")
	if a, b, s, none := i.Byte(), i.Byte(), i.Text(), i.Text(); a != 7 || b != 255 || s != "ab" || none != "" {
		t.Errorf("%d %d %q %q", a, b, s, none)
	}
	if n, r, none, rest := i.Left(), i.Raw(2), i.Raw(0), i.Raw(1); n != 3 || r != "cd" || none != "" || rest != "e" {
		t.Errorf("%d %q %q %q", n, r, none, rest)
	}
	if s := i.Raw(0); s != "" {
		t.Errorf("nothing at the end is %q", s)
	}
	ended(t, "all was read", i, 0, api.OK)
	if s, e := On("a").Raw(1), On("").End(); s != "a" || e != api.OK {
		t.Errorf("%q %d", s, e)
	}
}

func TestP102Errors(t *testing.T) {
	tests := []struct {
		what, bytes string
		read        func(i *In) bool
		err         api.Errno
	}{
		{"Raw below 0", "ab", func(i *In) bool { return i.Raw(-1) == "" }, api.ErrArg},
		{"Raw far below 0", "ab", func(i *In) bool { return i.Raw(math.MinInt) == "" }, api.ErrArg},
		{"Raw beyond the end", "ab", func(i *In) bool { return i.Raw(3) == "" }, api.ErrShort},
		{"Raw far beyond the end", "ab", func(i *In) bool { return i.Raw(math.MaxInt) == "" }, api.ErrShort},
		{"Byte at the end", "", func(i *In) bool { return i.Byte() == 0 }, api.ErrShort},
		{"Text beyond the end", "\x05ab", func(i *In) bool { return i.Text() == "" }, api.ErrShort},
		{"Text far beyond the end", strings.Repeat("\xff", 8) + "\x7fab", func(i *In) bool { return i.Text() == "" }, api.ErrShort},
		{"Text at the end", "", func(i *In) bool { return i.Text() == "" }, api.ErrShort},
		{"Text of a length that is wrong", "\x81\x00ab", func(i *In) bool { return i.Text() == "" }, api.ErrForm},
		{"Num of another form", "\x80\x00ab", func(i *In) bool { return i.Num() == 0 }, api.ErrForm},
	}
	for _, c := range tests {
		i := On(c.bytes)
		if !c.read(i) {
			t.Errorf("%s: something is answered", c.what)
		}
		mute(t, c.what, i)
		ended(t, c.what, i, 0, c.err)
		mute(t, c.what+", at the end", i)
		ended(t, c.what+", once more", i, 0, c.err)
	}
}

func TestP102EndTooEarly(t *testing.T) {
	i := On("abc")
	i.Byte()
	ended(t, "bytes are left", i, 2, api.ErrForm)
	mute(t, "bytes were left", i)
	ended(t, "once more", i, 0, api.ErrForm)
}

func TestP102ReadsWhatOutLays(t *testing.T) {
	nums := []int{0, math.MaxInt}
	for bit := range 63 {
		nums = append(nums, 1<<bit, 1<<bit-1, 1<<bit+1)
	}
	text := strings.Repeat("\x00\xff", 200)
	b, err := new(Out).Num(nums...).Text(text, "").Byte(255).Raw("end").End()
	if err != api.OK {
		t.Fatal(err)
	}
	i := On(b)
	for _, n := range nums {
		if got := i.Num(); got != n {
			t.Errorf("%d is read as %d", n, got)
		}
	}
	if s, none, last, r := i.Text(), i.Text(), i.Byte(), i.Raw(3); s != text || none != "" || last != 255 || r != "end" {
		t.Errorf("%q %q %d %q", s, none, last, r)
	}
	ended(t, "what Out laid", i, 0, api.OK)
	for short := range len(b) {
		i := On(b[:short])
		for range nums {
			i.Num()
		}
		i.Text()
		i.Text()
		i.Byte()
		i.Raw(3)
		ended(t, "a part of it", i, 0, api.ErrShort)
	}
}

func TestP103NilOut(t *testing.T) {
	var o *Out
	if o.Num(1) != nil || o.Num(-1) != nil || o.Byte(1) != nil || o.Byte(256) != nil || o.Text("a") != nil || o.Raw("a") != nil || o.Num() != nil {
		t.Error("a nil Out does not stay nil")
	}
	laid(t, "nil", o, "", api.ErrArg)
	laid(t, "nil", o.Num(1).Byte(2).Text("a").Raw("b"), "", api.ErrArg)
}

// A zero In is as a nil one: no promise says that it is ready (DOC.md, rule 6).
func TestP103NilIn(t *testing.T) {
	for _, i := range []*In{nil, {}} {
		mute(t, "nil", i)
		ended(t, "nil", i, 0, api.ErrArg)
		mute(t, "nil, at the end", i)
		ended(t, "nil, once more", i, 0, api.ErrArg)
	}
}
