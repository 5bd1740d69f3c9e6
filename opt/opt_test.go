package opt

import (
	"math"
	"testing"
)

// All sides that may be, by short names.
var (
	no           = Side{State: No}
	yes          = Side{State: Yes}
	wantNo       = Side{State: WantNo}
	wantNoTurn   = Side{State: WantNo, Opposite: true}
	wantYes      = Side{State: WantYes}
	wantYesTurn  = Side{State: WantYes, Opposite: true}
	valid        = []Side{no, yes, wantNo, wantNoTurn, wantYes, wantYesTurn}
	otherNumbers = []int{-1, -2, -3, 4, 5, 7, 255, 256, 1 << 32, 1<<32 + 1, -1 << 32, math.MinInt, math.MaxInt}
)

// notValid makes sides that may not be.
func notValid() []Side {
	l := []Side{{State: No, Opposite: true}, {State: Yes, Opposite: true}}
	for _, n := range otherNumbers {
		l = append(l, Side{State: n}, Side{State: n, Opposite: true})
	}
	return l
}

// hears tells whether Heard answers that.
func hears(t *testing.T, s Side, on, agree bool, after Side, sent int) {
	t.Helper()
	if got, n := s.Heard(on, agree); got != after || n != sent {
		t.Errorf("Heard(%t, %t) of %v is %v, %d, not %v, %d", on, agree, s, got, n, after, sent)
	}
}

// asks tells whether Ask answers that.
func asks(t *testing.T, s Side, on bool, after Side, sent int) {
	t.Helper()
	if got, n := s.Ask(on); got != after || n != sent {
		t.Errorf("Ask(%t) of %v is %v, %d, not %v, %d", on, s, got, n, after, sent)
	}
}

func TestP1001Example(t *testing.T) {
	asks(t, Side{}, true, Side{State: WantYes}, 1)
	s, _ := Side{}.Ask(true)
	hears(t, s, false, true, Side{State: No}, 0)
}

func TestP1001Numbers(t *testing.T) {
	if No != 0 || Yes != 1 || WantNo != 2 || WantYes != 3 {
		t.Error(No, Yes, WantNo, WantYes)
	}
	if no != (Side{}) {
		t.Error("a zero side is not No")
	}
}

func TestP1001Heard(t *testing.T) {
	hears(t, no, true, true, yes, 1)
	hears(t, no, true, false, no, -1)
	tests := []struct {
		s     Side
		on    bool
		after Side
		sent  int
	}{
		{yes, true, yes, 0},
		{wantNo, true, no, 0},
		{wantNoTurn, true, yes, 0},
		{wantYes, true, yes, 0},
		{wantYesTurn, true, wantNo, -1},
		{no, false, no, 0},
		{yes, false, no, -1},
		{wantNo, false, no, 0},
		{wantNoTurn, false, wantYes, 1},
		{wantYes, false, no, 0},
		{wantYesTurn, false, no, 0},
	}
	for _, c := range tests {
		for _, agree := range []bool{false, true} { // of no weight, but where a No hears on
			hears(t, c.s, c.on, agree, c.after, c.sent)
		}
	}
}

func TestP1001Ask(t *testing.T) {
	tests := []struct {
		s     Side
		on    bool
		after Side
		sent  int
	}{
		{no, true, wantYes, 1},
		{no, false, no, 0},
		{yes, true, yes, 0},
		{yes, false, wantNo, -1},
		{wantNo, true, wantNoTurn, 0},
		{wantNo, false, wantNo, 0},
		{wantNoTurn, true, wantNoTurn, 0},
		{wantNoTurn, false, wantNo, 0},
		{wantYes, true, wantYes, 0},
		{wantYes, false, wantYesTurn, 0},
		{wantYesTurn, true, wantYes, 0},
		{wantYesTurn, false, wantYesTurn, 0},
	}
	for _, c := range tests {
		asks(t, c.s, c.on, c.after, c.sent)
	}
}

func TestP1001Valid(t *testing.T) {
	for _, s := range valid {
		if !s.Valid() {
			t.Errorf("%v is not Valid", s)
		}
	}
	for _, s := range notValid() {
		if s.Valid() {
			t.Errorf("%v is Valid", s)
		}
	}
}

// On asks for the state alone, be the side Valid or not.
func TestP1001On(t *testing.T) {
	for _, s := range append(notValid(), valid...) {
		if s.On() != (s.State == 1) {
			t.Errorf("On of %v is %t", s, s.On())
		}
	}
}

func TestP1001NotValid(t *testing.T) {
	for _, s := range notValid() {
		for _, on := range []bool{false, true} {
			asks(t, s, on, s, 0)
			hears(t, s, on, false, s, 0)
			hears(t, s, on, true, s, 0)
		}
	}
}

// A call answers a new side: the one that it was asked of stays.
func TestP1001TheOneOfBeforeStays(t *testing.T) {
	for _, was := range append(notValid(), valid...) {
		s := was
		for _, on := range []bool{false, true} {
			s.Ask(on)
			s.Heard(on, true)
			s.Heard(on, false)
		}
		if s != was {
			t.Errorf("%v is %v", was, s)
		}
	}
}

// What begins Valid stays so, and no call sends anything but 1, 0 and -1.
func TestP1001ValidStaysValid(t *testing.T) {
	for _, s := range valid {
		for k := range 8 {
			on, agree, ask := k&1 == 1, k&2 == 2, k&4 == 4
			next, sent := s.Heard(on, agree)
			if ask {
				next, sent = s.Ask(on)
			} else if next.Opposite {
				t.Errorf("Heard(%t, %t) of %v is %v", on, agree, s, next)
			}
			if !next.Valid() || sent < -1 || sent > 1 {
				t.Errorf("%v, behind %v, sends %d", next, s, sent)
			}
		}
	}
}

// party is one of two that have sides of the same option; what is sent to it waits till it hears it.
type party struct {
	side    Side
	agree   bool
	waiting []int
}

// talk is two parties, how many times one was asked, and how much was sent in all.
type talk struct {
	of         [2]party
	asks, sent int
}

func (k *talk) tell(who, n int) {
	if n != 0 {
		k.of[1-who].waiting = append(k.of[1-who].waiting, n)
		k.sent++
	}
}

func (k *talk) ask(who int, on bool) {
	next, n := k.of[who].side.Ask(on)
	k.of[who].side = next
	k.asks++
	k.tell(who, n)
}

// hear tells whether there was something to hear.
func (k *talk) hear(who int) bool {
	p := &k.of[who]
	if len(p.waiting) == 0 {
		return false
	}
	first := p.waiting[0]
	p.waiting = p.waiting[1:]
	next, n := p.side.Heard(first > 0, p.agree)
	p.side = next
	k.tell(who, n)
	return true
}

// settle tells whether they come to rest.
func (k *talk) settle() bool {
	for range 1000 {
		first, second := k.hear(0), k.hear(1)
		if !first && !second {
			return true
		}
	}
	return false
}

// play goes through one course of asking and hearing: each of its digits, to the base of six, is a step.
func play(agree [2]bool, course, steps int) *talk {
	k := &talk{}
	k.of[0].agree, k.of[1].agree = agree[0], agree[1]
	for range steps {
		who, what := course%2, course/2%3
		course /= 6
		if what == 2 {
			k.hear(who)
		} else {
			k.ask(who, what == 1)
		}
	}
	return k
}

// What the table is for: whatever two parties ask of each other, and whenever they hear it, they come to rest, of one mind, with no more sent than an asking and an answer each.
func TestP1001TwoPartiesComeToRest(t *testing.T) {
	const steps, courses = 6, 6 * 6 * 6 * 6 * 6 * 6
	for _, agree := range [][2]bool{{false, false}, {false, true}, {true, false}, {true, true}} {
		for course := range courses {
			k := play(agree, course, steps)
			if !k.settle() {
				t.Fatalf("course %d, agree %v: no rest", course, agree)
			}
			a, b := k.of[0].side, k.of[1].side
			if a != b || a != no && a != yes {
				t.Fatalf("course %d, agree %v: %v and %v at rest", course, agree, a, b)
			}
			if k.sent > 2*k.asks {
				t.Fatalf("course %d, agree %v: %d sent of %d asked", course, agree, k.sent, k.asks)
			}
		}
	}
}

// One that alone asks, of one that agrees, has what it asked for last.
func TestP1001WhatWasAskedLastIs(t *testing.T) {
	for course := range 1 << 15 {
		k, last := &talk{}, false
		k.of[1].agree = true
		for step := range 5 {
			three := course >> (3 * step)
			last = three&1 == 1
			k.ask(0, last)
			for who := range 2 {
				if three>>(who+1)&1 == 1 {
					k.hear(1 - who)
				}
			}
		}
		if !k.settle() || k.of[0].side.On() != last || k.of[1].side.On() != last {
			t.Fatalf("course %d: %v and %v at rest, not On %t", course, k.of[0].side, k.of[1].side, last)
		}
	}
}
