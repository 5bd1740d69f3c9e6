// Package codec lays numbers and texts into bytes.
package codec

import (
	"strings"

	"pontoon/api"
)

const (
	more     = 128 // in a byte of a number that is not its last one
	bits     = 7   // of a number, in each of its bytes
	longest  = 9   // bytes of a number: what an int holds above 0
	greatest = 255 // what a byte holds
)

// Out lays things one behind the other.
type Out struct {
	laid []byte
	err  api.Errno
}

// Num lays numbers.
func (o *Out) Num(l ...int) *Out {
	for _, n := range l {
		o.num(n)
	}
	return o
}

// Byte lays bytes.
func (o *Out) Byte(l ...int) *Out {
	for _, n := range l {
		if n < 0 || n > greatest {
			o.fail(api.ErrArg)
		}
		if o.open() {
			o.laid = append(o.laid, byte(n))
		}
	}
	return o
}

// Text lays texts and their lengths.
func (o *Out) Text(l ...string) *Out {
	for _, s := range l {
		o.num(len(s))
		o.raw(s)
	}
	return o
}

// Raw lays bytes as they are.
func (o *Out) Raw(l ...string) *Out {
	for _, s := range l {
		o.raw(s)
	}
	return o
}

// End tells the bytes.
func (o *Out) End() (string, api.Errno) {
	if o == nil {
		return "", api.ErrArg
	}
	return string(o.laid), o.err
}

func (o *Out) open() bool { return o != nil && o.err == api.OK }

// fail lets the bytes go with the first error: nobody can ask for them any more.
func (o *Out) fail(e api.Errno) {
	if o.open() {
		o.laid, o.err = nil, e
	}
}

func (o *Out) num(n int) {
	if n < 0 {
		o.fail(api.ErrArg)
	}
	if !o.open() {
		return
	}
	for ; n >= more; n >>= bits {
		o.laid = append(o.laid, byte(n%more+more))
	}
	o.laid = append(o.laid, byte(n))
}

func (o *Out) raw(s string) {
	if o.open() {
		o.laid = append(o.laid, s...)
	}
}

// In reads things. One that On did not make is as a nil one: made tells it from one on no bytes.
type In struct {
	rest string
	err  api.Errno
	made bool
}

// On makes a reader.
func On(b string) *In { return &In{rest: b, made: true} }

// Num reads a number.
func (i *In) Num() int {
	if !i.open() {
		return 0
	}
	n, size, err := number(i.rest)
	if err != api.OK {
		i.fail(err)
		return 0
	}
	i.rest = i.rest[size:]
	return n
}

// Byte reads a byte.
func (i *In) Byte() int {
	if s := i.Raw(1); s != "" {
		return int(s[0])
	}
	return 0
}

// Text reads a text.
func (i *In) Text() string { return i.Raw(i.Num()) }

// Raw reads bytes.
func (i *In) Raw(n int) string {
	if !i.open() {
		return ""
	}
	if n < 0 {
		i.fail(api.ErrArg)
		return ""
	}
	if n > len(i.rest) {
		i.fail(api.ErrShort)
		return ""
	}
	s := strings.Clone(i.rest[:n]) // a piece shares nothing with what is read
	i.rest = i.rest[n:]
	return s
}

// Left tells how many bytes are left.
func (i *In) Left() int {
	if i == nil {
		return 0
	}
	return len(i.rest)
}

// End tells whether all was read.
func (i *In) End() api.Errno {
	if i == nil || !i.made {
		return api.ErrArg
	}
	if i.rest != "" {
		i.fail(api.ErrForm)
	}
	return i.err
}

func (i *In) open() bool { return i != nil && i.made && i.err == api.OK }

// fail is called of an open In alone, so that the first error stays. Nothing is left with an error.
func (i *In) fail(e api.Errno) { i.rest, i.err = "", e }

// number tells the number that bytes begin with, and how many of them it has.
func number(b string) (int, int, api.Errno) {
	n := 0
	for k := range len(b) {
		if k == longest {
			return 0, 0, api.ErrForm
		}
		n |= int(b[k]%more) << (k * bits)
		if b[k] >= more {
			continue
		}
		if b[k] == 0 && k > 0 { // a shorter number says the same
			return 0, 0, api.ErrForm
		}
		return n, k + 1, api.OK
	}
	return 0, 0, api.ErrShort
}
