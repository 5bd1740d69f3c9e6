package chart

import (
	"go/ast"
	"go/parser"
	"go/token"
	"math"
	"path/filepath"
	"strconv"
	"strings"
	"testing"
)

// chapter has the list of the chapter, as it stands there: from the backquote on.
const chapter = "25c6 2592 2409 240c 240d 240a b0 b1 2424 240b 2518 2510 250c 2514 253c 23ba 23bb 2500 23bc 23bd 251c 2524 2534 252c 2502 2264 2265 3c0 2260 a3 b7"

// linesOf reads the chapter's list.
func linesOf(t *testing.T) map[rune]rune {
	t.Helper()
	m := map[rune]rune{0x5f: 32}
	for i, f := range strings.Fields(chapter) {
		n, err := strconv.ParseInt(f, 16, 32)
		if err != nil {
			t.Fatal(err)
		}
		m['`'+rune(i)] = rune(n)
	}
	if len(m) != 0x7e-0x5f+1 {
		t.Fatalf("the list has %d runes", len(m))
	}
	return m
}

// runes tells runes about all ends, and some that are none, such that a difference of them may go beyond their 32 bits.
func runes() []rune {
	l := []rune{math.MinInt32, math.MinInt32 + 1, math.MinInt32 + 0x5e, math.MinInt32 + 0x5f, math.MinInt32 + 0x7e, math.MinInt32 + 0x7f, -0x5f, 0xd800, 0xfffd, 0x1005f, 0x10ffff, 0x110000, 1<<24 + 0x60, math.MaxInt32 - 0x5f, math.MaxInt32}
	for r := rune(-0x200); r <= 0x3000; r++ {
		l = append(l, r)
	}
	return l
}

func TestP1602Known(t *testing.T) {
	for set := range 256 {
		if got, want := Known(byte(set)), set == 66 || set == 65 || set == 48; got != want {
			t.Errorf("Known(%d) is %t", set, got)
		}
	}
}

func TestP1602MapOfLines(t *testing.T) {
	m := linesOf(t)
	for _, r := range runes() {
		want, ok := m[r]
		if !ok {
			want = r
		}
		if got := Map('0', r); got != want {
			t.Errorf("Map('0', %#x) is %#x, not %#x", r, got, want)
		}
	}
	if got := Map('0', 'q'); got != 0x2500 {
		t.Errorf("Map('0', 'q') is %#x", got)
	}
}

func TestP1602MapOfA(t *testing.T) {
	for _, r := range runes() {
		want := r
		if r == 35 {
			want = 163
		}
		if got := Map('A', r); got != want {
			t.Errorf("Map('A', %#x) is %#x, not %#x", r, got, want)
		}
	}
}

// Of B, and of a set that is none, each rune is itself.
func TestP1602MapOfTheOthers(t *testing.T) {
	for set := range 256 {
		if set == 'A' || set == '0' {
			continue
		}
		for _, r := range runes() {
			if got := Map(byte(set), r); got != r {
				t.Fatalf("Map(%d, %#x) is %#x", set, r, got)
			}
		}
	}
}

// The list stands inside a function, by LANGUAGE.md's rule 3b and the chapter's 'Ways': at package level stands no variable.
func TestP1602NothingAtPackageLevel(t *testing.T) {
	names, err := filepath.Glob("*.go")
	if err != nil || len(names) == 0 {
		t.Fatalf("%v: %d files", err, len(names))
	}
	for _, name := range names {
		if strings.HasSuffix(name, "_test.go") {
			continue
		}
		f, err := parser.ParseFile(token.NewFileSet(), name, nil, 0)
		if err != nil {
			t.Fatal(err)
		}
		for _, d := range f.Decls {
			if g, ok := d.(*ast.GenDecl); ok && g.Tok == token.VAR {
				t.Errorf("%s has a variable at package level", name)
			}
		}
	}
}
