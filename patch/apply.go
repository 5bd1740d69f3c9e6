package patch

import (
	"slices"

	"pontoon/api"
	"pontoon/cell"
	"pontoon/codec"
)

// Apply tells the screen that a difference makes. What may stand in one is told by Diff alone: one that Diff would not lay just so is none.
func Apply(a api.Screen, d string) (api.Screen, api.Errno) {
	if !Valid(a) {
		return api.Screen{}, api.ErrArg
	}
	b := read(a, d)
	if laid, err := Diff(a, b); err != api.OK || laid != d {
		return api.Screen{}, api.ErrForm
	}
	return b, api.OK
}

// read tells the screen that d makes of a, if Diff laid d; else any one that is not laid as d, or the zero one.
func read(a api.Screen, d string) api.Screen {
	in := codec.On(d)
	w, h, x, y, hidden := in.Num(), in.Num(), in.Num(), in.Num(), in.Byte()
	b := Blank(w, h)
	if sameSize(a, b) {
		b.Cells = slices.Clone(a.Cells)
	}
	b.X, b.Y, b.Hidden = x, y, hidden != 0
	rest := b.Cells // what stands behind the last run that was read
	for range in.Num() {
		gap, size := in.Num(), in.Num()
		if size == 0 || size > len(rest)-gap { // and so a count ends soon for which no runs stand there
			return api.Screen{}
		}
		if !readCells(rest[gap:gap+size], d, in) {
			return api.Screen{}
		}
		rest = rest[gap+size:]
	}
	return b
}

// readCells fills l with the cells that stand in d where in is; false, if one of them is none.
func readCells(l []api.Cell, d string, in *codec.In) bool {
	for i := range l {
		c, n, err := cell.Read(d[len(d)-in.Left():])
		if err != api.OK {
			return false
		}
		l[i] = c
		in.Raw(n)
	}
	return true
}
