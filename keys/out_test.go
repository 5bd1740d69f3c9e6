package keys

import (
	"slices"
	"strings"
	"testing"
	"unsafe"

	"pontoon/api"
)

// adds tells whether Add answers as the model does, and what is told then.
func adds(t *testing.T, o *Out, m *outModel, want int, l ...api.Event) {
	t.Helper()
	m.add(l...)
	if n := o.Add(l...); n != want {
		t.Errorf("Add of %d is %d, not %d", len(l), n, want)
	}
	outIs(t, "Add", o, m)
}

// acks tells whether Ack answers that, and what is told then.
func acks(t *testing.T, o *Out, m *outModel, n, want int) {
	t.Helper()
	m.ack(n)
	if went := o.Ack(n); went != want {
		t.Errorf("Ack(%d) is %d, not %d", n, went, want)
	}
	outIs(t, n, o, m)
}

func TestP2002Zero(t *testing.T) {
	outIs(t, "a zero one", &Out{}, &outModel{})
	o, m := &Out{}, &outModel{}
	acks(t, o, m, 0, 0)
	acks(t, o, m, 1, 0)
	adds(t, o, m, 0)
	adds(t, o, m, 1, key("a"))
	if n, l := o.Wait(9); n != 1 || !slices.Equal(l, []api.Event{key("a")}) {
		t.Errorf("Wait is %d, %v", n, l)
	}
}

func TestP2002Add(t *testing.T) {
	o, m := &Out{}, &outModel{}
	for k := 1; k <= 40; k++ {
		adds(t, o, m, 1, nth(k))
		adds(t, o, m, 0)
		if n, l := o.Wait(99); n != 1 || !slices.Equal(l, from(1, k)) || o.Top() != k {
			t.Errorf("Wait is %d, %v, and Top %d", n, l, o.Top())
		}
	}
	adds(t, o, m, 0, nth(41))
	adds(t, o, m, 0, key(""))
}

// What has no room, or is not Valid, ends it, whatever stands behind.
func TestP2002AddEnds(t *testing.T) {
	for before := range 41 {
		for more := range 45 {
			o, m := &Out{}, &outModel{}
			adds(t, o, m, before, from(1, before)...)
			adds(t, o, m, min(more, 40-before), from(before+1, before+more)...)
		}
	}
	for _, e := range wrongs() {
		o, m := &Out{}, &outModel{}
		adds(t, o, m, 0, e)
		adds(t, o, m, 0, e, nth(1))
		adds(t, o, m, 2, nth(1), nth(2), e, nth(3))
		adds(t, o, m, 3, nth(3), nth(4), nth(5), e, e)
		adds(t, o, m, 35, append(from(6, 40), e, nth(41))...)
	}
}

// Room is for those that wait, however many there were.
func TestP2002RoomAgain(t *testing.T) {
	o, m := &Out{}, &outModel{}
	adds(t, o, m, 40, from(1, 45)...)
	for n := 1; n <= 200; n++ {
		acks(t, o, m, n, 1)
		adds(t, o, m, 1, nth(40+n), nth(41+n))
	}
	acks(t, o, m, 240, 40)
	adds(t, o, m, 40, from(241, 300)...)
}

func TestP2002Ack(t *testing.T) {
	o, m := &Out{}, &outModel{}
	adds(t, o, m, 10, from(1, 10)...)
	for _, n := range append(slices.Clone(far), 0, 11, 12, 40, 41) {
		acks(t, o, m, n, 0)
	}
	acks(t, o, m, 3, 3)
	for _, n := range append(slices.Clone(far), 0, 1, 2, 3, 11) {
		acks(t, o, m, n, 0)
	}
	acks(t, o, m, 4, 1)
	acks(t, o, m, 10, 6)
	for _, n := range append(slices.Clone(far), 0, 9, 10, 11) {
		acks(t, o, m, n, 0)
	}
	if n, l := o.Wait(9); n != 0 || len(l) != 0 || o.Top() != 10 || o.Acked() != 10 {
		t.Errorf("where none waits, Wait is %d, %v", n, l)
	}
	adds(t, o, m, 1, key("behind"))
	if n, l := o.Wait(1); n != 11 || !slices.Equal(l, []api.Event{key("behind")}) {
		t.Errorf("Wait is %d, %v", n, l)
	}
}

// Each Ack of each number of events.
func TestP2002EachAck(t *testing.T) {
	for size := range 41 {
		for n := -2; n < 45; n++ {
			o, m := &Out{}, &outModel{}
			o.Add(from(1, size)...)
			m.add(from(1, size)...)
			want := 0
			if n >= 1 && n <= size {
				want = n
			}
			acks(t, o, m, n, want)
		}
	}
}

func TestP2002NothingIsWrittenIntoTheList(t *testing.T) {
	l := slices.Repeat([]api.Event{key("a")}, 60)
	o := &Out{}
	o.Add(l[:30]...)
	o.Ack(20)
	o.Add(l[:40:60]...)
	o.Ack(40)
	o.Add(key("b"))
	o.Wait(40)
	if !slices.Equal(l, slices.Repeat([]api.Event{key("a")}, 60)) {
		t.Errorf("the list is %v", l)
	}
}

func TestP2002EventsAreItsOwn(t *testing.T) {
	o, m := &Out{}, &outModel{}
	l := from(1, 20)
	m.add(l...)
	o.Add(l...)
	clear(l)
	outIs(t, "what was handed in is turned", o, m)
	for _, most := range []int{1, 5, 20} {
		_, told := o.Wait(most)
		clear(told)
		outIs(t, "what was told is turned", o, m)
	}
	_, told := o.Wait(3)
	_ = append(told, key("x"))
	outIs(t, "what was told is longer", o, m)
	_, told = o.Wait(20)
	o.Ack(20)
	o.Add(from(21, 60)...)
	if !slices.Equal(told, from(1, 20)) {
		t.Errorf("what was told is %v", told)
	}
}

// A text may be a piece of a long one, which is not held for it.
func TestP2002TextsAreItsOwn(t *testing.T) {
	long := strings.Repeat("abcdefgh", 1000)
	o := &Out{}
	o.Add(key(long[8:16]))
	_, one := o.Wait(1)
	_, two := o.Wait(1)
	a, b := unsafe.StringData(one[0].Text), unsafe.StringData(two[0].Text)
	if one[0].Text != "abcdefgh" || a == unsafe.StringData(long[8:]) || a == b || unsafe.StringData(o.kept[0].Text) == a {
		t.Errorf("%q is shared", one[0].Text)
	}
}

// What goes is let go: behind what waits nothing of it is held.
func TestP2002WhatGoesIsLetGo(t *testing.T) {
	o := &Out{}
	o.Add(from(1, 40)...)
	o.Ack(38)
	for _, e := range o.kept[len(o.kept):cap(o.kept)] {
		if e != (api.Event{}) {
			t.Errorf("%v is held", e)
		}
	}
}

func TestP2002OutsAreTheirOwn(t *testing.T) {
	a, m := &Out{}, &outModel{}
	b, n := &Out{}, &outModel{}
	adds(t, a, m, 5, from(1, 5)...)
	adds(t, b, n, 3, from(1, 3)...)
	acks(t, a, m, 4, 4)
	outIs(t, "the other one", b, n)
}

func TestP2002NilOut(t *testing.T) {
	var o *Out
	for range 2 {
		for _, k := range append(slices.Clone(far), 0, 1, 2, 40) {
			n, l := o.Wait(k)
			if o.Ack(k) != 0 || n != 0 || len(l) != 0 {
				t.Errorf("a nil one tells %d, %v at %d", n, l, k)
			}
		}
		if o.Add(key("a")) != 0 || o.Add() != 0 || o.Add(key("")) != 0 || o.Top() != 0 || o.Acked() != 0 {
			t.Errorf("a nil one has %d, %d", o.Top(), o.Acked())
		}
	}
}

// Calls in any order, as the model says.
func TestP2002AnyOrder(t *testing.T) {
	bad := wrongs()
	for seed := range 400 {
		next := randoms(seed)
		o, m := &Out{}, &outModel{}
		for k := range 120 {
			what := []int{seed, k}
			if next(3) == 0 {
				n := o.Acked() - 2 + next(6+o.Top()-o.Acked())
				if next(9) == 0 {
					n = far[next(len(far))]
				}
				if went, want := o.Ack(n), m.ack(n); went != want {
					t.Fatalf("%v: Ack(%d) is %d, not %d", what, n, went, want)
				}
			} else {
				l := from(o.Top()+1, o.Top()+next(2+seed%20))
				if len(l) > 0 && next(5) == 0 {
					l[next(len(l))] = bad[next(len(bad))]
				}
				if n, want := o.Add(l...), m.add(l...); n != want {
					t.Fatalf("%v: Add is %d, not %d", what, n, want)
				}
			}
			outIs(t, what, o, m)
		}
	}
}
