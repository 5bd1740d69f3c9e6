package patch

import (
	"pontoon/api"
	"pontoon/cell"
	"pontoon/codec"
)

// Diff tells the difference of two screens.
func Diff(a, b api.Screen) (string, api.Errno) {
	l, err := runs(a, b)
	if err != api.OK {
		return "", err
	}
	var o codec.Out
	o.Num(b.W, b.H, b.X, b.Y).Byte(flag(b.Hidden)).Num(len(l))
	behind := 0
	for _, r := range l {
		o.Num(r.first-behind, r.behind-r.first)
		for _, c := range b.Cells[r.first:r.behind] {
			o.Raw(cell.Lay(c))
		}
		behind = r.behind
	}
	return o.End()
}

// Size tells how many places are changed.
func Size(a, b api.Screen) int {
	l, _ := runs(a, b)
	n := 0
	for _, r := range l {
		n += r.behind - r.first
	}
	return n
}

// run has the changed places from its first one on to the one behind it, which is not changed any more.
type run struct{ first, behind int }

// runs tells the places of b that are changed; api.ErrArg, if one of the two is not Valid.
func runs(a, b api.Screen) ([]run, api.Errno) {
	if !Valid(a) || !Valid(b) {
		return nil, api.ErrArg
	}
	var l []run
	for place := range b.Cells {
		if !changed(a, b, place) {
			continue
		}
		if n := len(l); n > 0 && l[n-1].behind == place {
			l[n-1].behind++
		} else {
			l = append(l, run{first: place, behind: place + 1})
		}
	}
	return l, api.OK
}

// changed asks for cells of a only where it has just as many as b.
func changed(a, b api.Screen, place int) bool {
	return !sameSize(a, b) || a.Cells[place] != b.Cells[place]
}

func flag(set bool) int {
	if set {
		return 1
	}
	return 0
}
