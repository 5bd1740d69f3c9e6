package seal

import (
	"crypto/hmac"
	"crypto/sha256"
	"encoding/hex"
	"slices"
	"strings"
	"testing"
	"unsafe"

	"pontoon/api"
)

// wanted is the tag that Go's own library makes.
func wanted(key, text string) string {
	m := hmac.New(sha256.New, []byte(key))
	m.Write([]byte(text))
	return string(m.Sum(nil)[:Size])
}

// some makes n bytes that look like none before them.
func some(n int) string {
	b, seed := make([]byte, n), uint32(n)
	for k := range b {
		seed = seed*1664525 + 1013904223
		b[k] = byte(seed >> 24)
	}
	return string(b)
}

// opens tells whether Open answers that.
func opens(t *testing.T, what, key, b, text string, err api.Errno) {
	t.Helper()
	if s, e := Open(key, b); s != text || e != err {
		t.Errorf("%s: Open is %q, %d, not %q, %d", what, s, e, text, err)
	}
}

// flipped turns one bit of a text.
func flipped(s string, bit int) string {
	b := []byte(s)
	b[bit/8] ^= 1 << (bit % 8)
	return string(b)
}

func TestP501Example(t *testing.T) {
	tag := Tag("key", "The quick brown fox ", "jumps over the lazy dog")
	if got := hex.EncodeToString([]byte(tag)); got != "f7bc83f430538424b13298e6aa6fb143" || Size != 16 {
		t.Errorf("%s, Size %d", got, Size)
	}
}

// The cases of RFC 4231.
func TestP501KnownTags(t *testing.T) {
	long := strings.Repeat("\xaa", 131)
	tests := []struct{ key, text, tag string }{
		{strings.Repeat("\x0b", 20), "Hi There", "b0344c61d8db38535ca8afceaf0bf12b"},
		{"Jefe", "what do ya want for nothing?", "5bdcc146bf60754e6a042426089575c7"},
		{strings.Repeat("\xaa", 20), strings.Repeat("\xdd", 50), "773ea91e36800e46854db8ebd09181a7"},
		{strings.Repeat("\x0c", 20), "Test With Truncation", "a3b6167473100ee06e0c796c2955552b"},
		{long, "Test Using Larger Than Block-Size Key - Hash Key First", "60e431591ee0b67f0d8a26aacbf5b77f"},
		{long, "This is a test using a larger than block-size key and a larger than block-size data. The key needs to be hashed before being used by the HMAC algorithm.", "9b09ffa71b942fcb27635fbcd5b0e944"},
	}
	for _, c := range tests {
		if got := hex.EncodeToString([]byte(Tag(c.key, c.text))); got != c.tag {
			t.Errorf("%q: %s, not %s", c.text, got, c.tag)
		}
	}
}

// Keys and texts of each length about the ends of blocks.
func TestP501TagOfEachLength(t *testing.T) {
	for n := range 200 {
		for _, m := range []int{0, 1, 31, 32, 33, 54, 55, 56, 63, 64, 65, 119, 120, 127, 128, 129, 1000} {
			if a, b := some(n), some(m); Tag(a, b) != wanted(a, b) || Tag(b, a) != wanted(b, a) {
				t.Errorf("lengths %d and %d: another tag", n, m)
			}
		}
	}
	if s := some(300_000); Tag(s, s) != wanted(s, s) {
		t.Error("a long one: another tag")
	}
}

func TestP501TextsStandBehindEachOther(t *testing.T) {
	whole := some(150)
	tag := wanted("k", whole)
	for i := range len(whole) + 1 {
		if Tag("k", whole[:i], whole[i:]) != tag || Tag("k", "", whole[:i], "", "", whole[i:], "") != tag {
			t.Errorf("cut at %d: another tag", i)
		}
	}
	if bytes := strings.Split(whole, ""); Tag("k", bytes...) != tag || Seal("k", bytes...) != whole+tag {
		t.Error("in its parts: another tag")
	}
	if Tag("k", "a", "b") == Tag("k", "b", "a") {
		t.Error("their order does not count")
	}
}

func TestP501NoTexts(t *testing.T) {
	for _, key := range []string{"", "k", "\x00", some(64), some(65)} {
		tag := wanted(key, "")
		if Tag(key) != tag || Tag(key, nil...) != tag || Tag(key, "", "") != tag || Seal(key) != tag || Seal(key, "") != tag {
			t.Errorf("%q: the tag of nothing is another one", key)
		}
		opens(t, "nothing", key, Seal(key), "", api.OK)
	}
}

// A message of 2^29 bytes is the first one whose bits need more than 32 of them; too long to be hashed here.
func TestP501EndingTellsTheBits(t *testing.T) {
	tests := []struct {
		size int
		bits string
	}{
		{0, "\x00\x00\x00\x00\x00\x00\x00\x00"}, {32, "\x00\x00\x00\x00\x00\x00\x01\x00"},
		{1<<29 - 1, "\x00\x00\x00\x00\xff\xff\xff\xf8"}, {1 << 29, "\x00\x00\x00\x01\x00\x00\x00\x00"},
		{1<<31 - 1, "\x00\x00\x00\x03\xff\xff\xff\xf8"}, {1<<56 + 1, "\x08\x00\x00\x00\x00\x00\x00\x08"},
	}
	for _, c := range tests {
		s := ending(c.size)
		zeros := strings.Trim(s[1:len(s)-8], "\x00")
		if s[0] != 0x80 || zeros != "" || (c.size+len(s))%64 != 0 || len(s) > 72 || s[len(s)-8:] != c.bits {
			t.Errorf("behind %d bytes stands %x", c.size, s)
		}
	}
}

func TestP501SealAndOpen(t *testing.T) {
	for n := range 140 {
		key, text := some(n), some(n*3)
		b := Seal(key, text[:n], text[n:])
		if b != text+wanted(key, text) {
			t.Errorf("length %d: Seal is %x", n, b)
		}
		opens(t, "what Seal answered", key, b, text, api.OK)
		opens(t, "sealed twice", key, Seal(key, b), b, api.OK)
	}
}

func TestP501OpenShort(t *testing.T) {
	b := Seal("k")
	for n := range Size {
		opens(t, "a part of a tag", "k", b[:n], "", api.ErrShort)
		opens(t, "the end of a tag", "k", b[Size-n:], "", api.ErrShort)
		opens(t, "too few bytes", "", strings.Repeat("\x00", n), "", api.ErrShort)
	}
	opens(t, "just a tag", "k", b, "", api.OK)
	opens(t, "as many bytes", "k", strings.Repeat("\x00", Size), "", api.ErrTag)
}

func TestP501OpenOtherBytes(t *testing.T) {
	text := "some text\x00\xff"
	b := Seal("k", text)
	tests := map[string]string{
		"the tag alone":           b[len(text):],
		"without its first byte":  b[1:],
		"without its last byte":   b[:len(b)-1],
		"a byte more":             b + "x",
		"a zero more":             b + "\x00",
		"a byte ahead":            "x" + b,
		"the tag ahead":           b[len(text):] + text,
		"the tag of another text": "Some text\x00\xff" + b[len(text):],
		"a text of zeros":         strings.Repeat("\x00", len(b)),
	}
	for what, other := range tests {
		opens(t, what, "k", other, "", api.ErrTag)
	}
	for bit := range len(b) * 8 {
		opens(t, "a bit that is turned", "k", flipped(b, bit), "", api.ErrTag)
	}
}

// Two wrong bytes must not make up for each other.
func TestP501OpenTwoWrongBytes(t *testing.T) {
	b := Seal("k", "a")
	for bit := range Size * 8 {
		for other := range bit {
			opens(t, "two bits", "k", flipped(flipped(b, 8+bit), 8+other), "", api.ErrTag)
		}
	}
}

func TestP501OpenOtherKey(t *testing.T) {
	keys := []string{"k", "K", "kk", "", "k\x01", " k", some(64), some(65), some(66)}
	for _, key := range keys {
		for _, other := range keys {
			if key != other {
				opens(t, "another key", other, Seal(key, "text"), "", api.ErrTag)
			}
		}
	}
}

func TestP501KeepsNothing(t *testing.T) {
	l := []string{"ab", "cd", "ef"}
	first, sealed := Tag("k", l...), Seal("k", l[:2]...)
	Open("j", sealed)
	if !slices.Equal(l, []string{"ab", "cd", "ef"}) {
		t.Errorf("what was handed in became %q", l)
	}
	if Tag("k", l...) != first || Seal("k", "ab", "cd") != sealed {
		t.Error("the same is answered otherwise later")
	}
	opens(t, "once more", "k", sealed, "abcd", api.OK)
}

func TestP501AnswersAreTheirOwn(t *testing.T) {
	b := Seal("k", "text")
	text, _ := Open("k", b)
	again, _ := Open("k", b)
	if p := unsafe.StringData(text); p == unsafe.StringData(b) || p == unsafe.StringData(again) {
		t.Error("Open shares memory with what was handed in, or with what was answered")
	}
	if unsafe.StringData(Tag("k")) == unsafe.StringData(Tag("k")) {
		t.Error("two tags share memory")
	}
}
