package frame

import (
	"encoding/binary"
	"encoding/hex"
	"math"
	"strings"
	"testing"
	"unsafe"

	"pontoon/api"
	"pontoon/seal"
)

const last = 1 << 62 // the greatest number of a datagram

// text is what stands under the tag of a datagram, laid by Go's own library.
func text(way byte, seq uint64, body string) string {
	return string(binary.LittleEndian.AppendUint64([]byte{way}, seq)) + body
}

// laid tells whether Lay answers that.
func laid(t *testing.T, what, key string, f Frame, b string, err api.Errno) {
	t.Helper()
	if got, e := Lay(key, f); got != b || e != err {
		t.Errorf("%s: Lay is %x, %d, not %x, %d", what, got, e, b, err)
	}
}

// reads tells whether Read answers that.
func reads(t *testing.T, what, key, b string, f Frame, err api.Errno) {
	t.Helper()
	if got, e := Read(key, b); got != f || e != err {
		t.Errorf("%s: Read is %v, %d, not %v, %d", what, got, e, f, err)
	}
}

// both tells whether a Frame is laid as it should be, and read back.
func both(t *testing.T, what, key string, f Frame) {
	t.Helper()
	b := seal.Seal(key, text(byte(f.Way), uint64(f.Seq), f.Body))
	laid(t, what, key, f, b, api.OK)
	reads(t, what, key, b, f, api.OK)
}

func TestP701Ways(t *testing.T) {
	if ToClient != 1 || ToGate != 2 {
		t.Errorf("ToClient is %d, ToGate %d", ToClient, ToGate)
	}
	b, _ := Lay("k", Frame{Way: ToGate, Seq: 0x0102, Body: "hi"})
	if got := hex.EncodeToString([]byte(b[:len(b)-seal.Size])); got != "0202010000000000006869" {
		t.Errorf("under the tag stands %s", got)
	}
}

func TestP701LayAndRead(t *testing.T) {
	seqs := []int{1, 2, 127, 128, 255, 256, 257, 65535, 65536, 0x01020304050607, 0x0102030405060708,
		math.MaxInt32, math.MaxInt32 + 1, math.MaxUint32, math.MaxUint32 + 1, last - 1, last}
	bodies := []string{"", "x", "\x00", "\xff", "\x00\x00\x00\x00\x00\x00\x00\x00\x00", "two words\r\n", "gr\u00fc\u00dfe", strings.Repeat("\x80", 300)}
	for _, key := range []string{"", "k", "another key", strings.Repeat("k", 100)} {
		for _, seq := range seqs {
			for _, body := range bodies {
				both(t, "to the client", key, Frame{Way: ToClient, Seq: seq, Body: body})
				both(t, "to the gate", key, Frame{Way: ToGate, Seq: seq, Body: body})
			}
		}
	}
}

// Each bit of the number has its own place.
func TestP701EachBitOfSeq(t *testing.T) {
	for k := range 63 {
		both(t, "a bit", "k", Frame{Way: ToClient, Seq: 1 << k, Body: "x"})
		if k < 62 {
			both(t, "a bit more", "k", Frame{Way: ToGate, Seq: 1<<k | 1, Body: "x"})
		}
	}
}

func TestP701LayArg(t *testing.T) {
	for _, way := range []int{0, -1, -2, 3, 4, 255, 256, 257, 258, 1 + 1<<32, 2 + 1<<32, math.MaxInt, math.MinInt, math.MinInt + 1} {
		laid(t, "a way that is none", "k", Frame{Way: way, Seq: 1, Body: "x"}, "", api.ErrArg)
	}
	for _, seq := range []int{0, -1, -2, last + 1, last + 2, math.MaxInt, math.MinInt, math.MinInt + 1, -last} {
		laid(t, "a number that may not be", "k", Frame{Way: ToClient, Seq: seq, Body: "x"}, "", api.ErrArg)
		laid(t, "a number that may not be", "k", Frame{Way: ToGate, Seq: seq}, "", api.ErrArg)
	}
	laid(t, "a zero Frame", "k", Frame{}, "", api.ErrArg)
}

func TestP701LayLong(t *testing.T) {
	most := strings.Repeat("x", api.MaxData)
	both(t, "one less than the most", "k", Frame{Way: ToClient, Seq: 1, Body: most[1:]})
	both(t, "the most", "k", Frame{Way: ToGate, Seq: last, Body: most})
	laid(t, "one more", "k", Frame{Way: ToClient, Seq: 1, Body: most + "x"}, "", api.ErrLong)
	laid(t, "many more", "k", Frame{Way: ToGate, Seq: last, Body: most + most}, "", api.ErrLong)
	laid(t, "a way that is none, too", "k", Frame{Way: 3, Seq: 1, Body: most + "x"}, "", api.ErrArg)
	laid(t, "a number that may not be, too", "k", Frame{Way: ToGate, Body: most + "x"}, "", api.ErrArg)
}

// Fewer bytes than a tag has are told as seal tells them, fewer than 9 under a tag that fits likewise; between stands the tag.
func TestP701ReadShort(t *testing.T) {
	b, _ := Lay("k", Frame{Way: ToClient, Seq: 7, Body: "body"})
	for n := range len(b) {
		err := api.ErrTag
		if n < seal.Size {
			err = api.ErrShort
		}
		reads(t, "the beginning of one", "k", b[:n], Frame{}, err)
		reads(t, "the end of one", "k", b[len(b)-n:], Frame{}, err)
	}
	for _, s := range []string{text(1, 1, ""), text(0, 0, ""), text(3, math.MaxUint64, "")} {
		for n := range 9 {
			reads(t, "fewer than 9 bytes", "k", seal.Seal("k", s[:n]), Frame{}, api.ErrShort)
			reads(t, "fewer than 9 bytes, of another key", "j", seal.Seal("k", s[:n]), Frame{}, api.ErrTag)
		}
	}
	reads(t, "9 bytes", "k", seal.Seal("k", text(1, 1, "")), Frame{Way: 1, Seq: 1}, api.OK)
	reads(t, "9 bytes of no way", "k", seal.Seal("k", text(0, 1, "")), Frame{}, api.ErrForm)
}

func TestP701ReadTag(t *testing.T) {
	b, _ := Lay("k", Frame{Way: ToGate, Seq: 7, Body: "body"})
	for _, key := range []string{"", "K", "j", "kk", "k\x01"} {
		reads(t, "another key", key, b, Frame{}, api.ErrTag)
	}
	for bit := range len(b) * 8 {
		c := []byte(b)
		c[bit/8] ^= 1 << (bit % 8)
		reads(t, "a bit that is turned", "k", string(c), Frame{}, api.ErrTag)
	}
	for _, c := range []string{b + "x", "x" + b, b[1:], b + b, strings.Repeat("\x00", len(b))} {
		reads(t, "other bytes", "k", c, Frame{}, api.ErrTag)
	}
	reads(t, "no way, of another key", "j", seal.Seal("k", text(3, 0, "")), Frame{}, api.ErrTag)
}

func TestP701ReadForm(t *testing.T) {
	for way := range 256 {
		b := seal.Seal("k", text(byte(way), 5, "x"))
		if way == ToClient || way == ToGate {
			reads(t, "a way", "k", b, Frame{Way: way, Seq: 5, Body: "x"}, api.OK)
		} else {
			reads(t, "a way that is none", "k", b, Frame{}, api.ErrForm)
		}
	}
	for _, seq := range []uint64{0, last + 1, last + 2, last + 256, 1<<63 - 1, 1 << 63, 1<<63 + 1, 3 << 62, 1<<64 - 1} {
		reads(t, "a number that may not be", "k", seal.Seal("k", text(1, seq, "x")), Frame{}, api.ErrForm)
		reads(t, "a number that may not be", "k", seal.Seal("k", text(2, seq, "")), Frame{}, api.ErrForm)
	}
	most := strings.Repeat("x", api.MaxData)
	reads(t, "the longest body", "k", seal.Seal("k", text(1, 1, most)), Frame{Way: 1, Seq: 1, Body: most}, api.OK)
	reads(t, "a longer body", "k", seal.Seal("k", text(1, 1, most+"x")), Frame{}, api.ErrForm)
	reads(t, "a far longer body", "k", seal.Seal("k", text(2, last, most+most)), Frame{}, api.ErrForm)
}

// Whatever is sealed, and read: Lay lays just that of what Read told.
func TestP701ReadIsWhatLayLays(t *testing.T) {
	seed, read := uint32(1), 0
	for range 5000 {
		s := make([]byte, seed>>9%12+3)
		for k := range s {
			seed = seed*1664525 + 1013904223
			s[k] = byte(seed >> 24 % 4)
		}
		b := seal.Seal("k", string(s))
		f, err := Read("k", b)
		if err != api.OK {
			if f != (Frame{}) {
				t.Fatalf("%v beside %d", f, err)
			}
			continue
		}
		read++
		laid(t, "what was read", "k", f, b, api.OK)
	}
	if read < 100 {
		t.Errorf("only %d were read", read)
	}
}

func TestP701AnswersAreTheirOwn(t *testing.T) {
	body := "a body"
	b, _ := Lay("k", Frame{Way: ToClient, Seq: 1, Body: body})
	f, _ := Read("k", b)
	again, _ := Read("k", b)
	p := unsafe.StringData(f.Body)
	if p == unsafe.StringData(b[9:]) || p == unsafe.StringData(again.Body) || p == unsafe.StringData(body) {
		t.Error("Read shares memory with what was handed in, or with what was answered")
	}
	c, _ := Lay("k", f)
	if unsafe.StringData(b) == unsafe.StringData(c) {
		t.Error("two answers of Lay share memory")
	}
	reads(t, "once more", "k", b, Frame{Way: ToClient, Seq: 1, Body: body}, api.OK)
}
