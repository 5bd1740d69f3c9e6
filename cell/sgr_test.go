package cell

import (
	"math"
	"slices"
	"testing"

	"pontoon/api"
)

// full is an Attr that has all, so that what goes is seen.
var full = api.Attr{Fg: 3, Bg: 12, Bold: true, Under: true, Inverse: true}

// looks tells whether Sgr answers that.
func looks(t *testing.T, a, want api.Attr, nums ...int) {
	t.Helper()
	in := slices.Clone(nums)
	if got := Sgr(a, nums...); got != want {
		t.Errorf("Sgr(%+v, %v) is %+v, not %+v", a, nums, got, want)
	}
	if !slices.Equal(nums, in) {
		t.Errorf("Sgr changed %v into %v", in, nums)
	}
}

// turned is an Attr that one thing is done to.
func turned(a api.Attr, f func(a *api.Attr)) api.Attr {
	f(&a)
	return a
}

func fg(n int) func(*api.Attr) { return func(a *api.Attr) { a.Fg = n } }
func bg(n int) func(*api.Attr) { return func(a *api.Attr) { a.Bg = n } }

// single has what each number does that is done alone, as the chapter lists them; any other does nothing.
func single() map[int]func(a *api.Attr) {
	m := map[int]func(a *api.Attr){
		-1: func(a *api.Attr) { *a = api.Attr{} },
		0:  func(a *api.Attr) { *a = api.Attr{} },
		1:  func(a *api.Attr) { a.Bold = true },
		22: func(a *api.Attr) { a.Bold = false },
		4:  func(a *api.Attr) { a.Under = true },
		24: func(a *api.Attr) { a.Under = false },
		7:  func(a *api.Attr) { a.Inverse = true },
		27: func(a *api.Attr) { a.Inverse = false },
		39: fg(0),
		49: bg(0),
	}
	for k := range 8 {
		m[30+k], m[90+k] = fg(1+k), fg(9+k)
		m[40+k], m[100+k] = bg(1+k), bg(9+k)
	}
	return m
}

// groups cuts numbers into those that are done together.
func groups(nums []int) [][]int {
	var l [][]int
	for len(nums) > 0 {
		n := 1
		if nums[0] == 38 || nums[0] == 48 {
			switch {
			case len(nums) > 1 && nums[1] == 5:
				n = min(3, len(nums))
			case len(nums) > 1 && nums[1] == 2:
				n = min(5, len(nums))
			}
		}
		l, nums = append(l, nums[:n]), nums[n:]
	}
	return l
}

// model does each group by itself.
func model(a api.Attr, nums []int) api.Attr {
	if len(nums) == 0 {
		return api.Attr{}
	}
	alone := single()
	for _, g := range groups(nums) {
		chosen := len(g) == 3 && g[1] == 5 && slices.Contains([]int{0, 1, 2, 3, 4, 5, 6, 7, 8, 9, 10, 11, 12, 13, 14, 15}, g[2])
		switch {
		case len(g) == 1 && alone[g[0]] != nil:
			alone[g[0]](&a)
		case chosen && g[0] == 38:
			a.Fg = g[2] + 1
		case chosen && g[0] == 48:
			a.Bg = g[2] + 1
		}
	}
	return a
}

// randoms makes numbers below n that are the same each time.
func randoms(seed int) func(n int) int {
	x := uint32(seed)
	return func(n int) int {
		x = x*1664525 + 1013904223
		return int(x>>16) % n
	}
}

func TestP1401SgrExample(t *testing.T) {
	looks(t, api.Attr{}, api.Attr{Bold: true, Fg: 2}, 1, 31)
}

// None is as 0, not as nothing.
func TestP1401SgrOfNone(t *testing.T) {
	looks(t, full, api.Attr{})
	looks(t, full, api.Attr{}, []int{}...)
	looks(t, api.Attr{}, api.Attr{})
}

// Each number by itself, from nothing and from all: what the chapter doesn't name changes nothing.
func TestP1401SgrEachNumber(t *testing.T) {
	alone := single()
	far := []int{-2, -30, 9999, 1 << 32, 1<<32 + 1, 1<<32 + 31, -1 << 32, math.MaxInt, math.MaxInt - 1, math.MinInt, math.MinInt + 1, math.MinInt + 40}
	for n := -300; n <= 300; n++ {
		far = append(far, n)
	}
	for _, n := range far {
		f := alone[n]
		if f == nil {
			f = func(*api.Attr) {}
		}
		for _, a := range []api.Attr{{}, full, {Fg: 16, Bg: 1}, {Bold: true}, {Under: true}, {Inverse: true}} {
			looks(t, a, turned(a, f), n)
		}
	}
}

// The ends of what asks for colors, with their neighbours.
func TestP1401SgrColorEnds(t *testing.T) {
	was := api.Attr{Fg: 5, Bg: 6}
	for _, c := range []struct{ n, fg, bg int }{
		{29, 5, 6}, {30, 1, 6}, {37, 8, 6}, {38, 5, 6}, {39, 0, 6}, {40, 5, 1}, {47, 5, 8}, {48, 5, 6}, {49, 5, 0}, {50, 5, 6},
		{89, 5, 6}, {90, 9, 6}, {97, 16, 6}, {98, 5, 6}, {99, 5, 6}, {100, 5, 9}, {107, 5, 16}, {108, 5, 6}, {109, 5, 6},
	} {
		looks(t, was, api.Attr{Fg: c.fg, Bg: c.bg}, c.n)
	}
}

func TestP1401SgrInOrder(t *testing.T) {
	looks(t, api.Attr{}, api.Attr{Bold: true, Under: true, Inverse: true}, 1, 4, 7)
	looks(t, api.Attr{}, api.Attr{}, 1, 4, 7, 22, 24, 27)
	looks(t, full, api.Attr{Under: true}, 0, 4)
	looks(t, full, api.Attr{}, 4, 0)
	looks(t, full, api.Attr{Fg: 1}, 1, -1, 30)
	looks(t, api.Attr{}, api.Attr{Fg: 3, Bg: 4}, 31, 41, 32, 43)
	looks(t, api.Attr{}, api.Attr{Fg: 3}, 32, 41, 49)
	looks(t, api.Attr{}, api.Attr{Bold: true}, 22, 1)
}

// With 5, a number behind it is a color, if there is such a one.
func TestP1401SgrColorsByNumber(t *testing.T) {
	was := api.Attr{Fg: 7, Bg: 8, Under: true}
	for n := range 16 {
		looks(t, was, turned(was, fg(n+1)), 38, 5, n)
		looks(t, was, turned(was, bg(n+1)), 48, 5, n)
	}
	for _, n := range []int{-1, -2, 16, 17, 31, 255, 1 << 32, math.MinInt, math.MaxInt} {
		looks(t, was, was, 38, 5, n)
		looks(t, was, was, 48, 5, n)
		looks(t, was, turned(was, fg(2)), 38, 5, n, 31)
		looks(t, was, turned(was, fg(2)), 48, 5, n, 31)
	}
	looks(t, api.Attr{}, api.Attr{Fg: 2, Bg: 3}, 38, 5, 1, 48, 5, 2)
	looks(t, api.Attr{}, api.Attr{Fg: 2, Bold: true}, 38, 5, 1, 1)
	looks(t, full, turned(full, fg(1)), 38, 5, 0)
}

// With 2, three more are done, whatever they are, and nothing changes.
func TestP1401SgrColorsByParts(t *testing.T) {
	for _, n := range []int{38, 48} {
		looks(t, full, full, n, 2, 0, -1, 22)
		looks(t, full, full, n, 2, 38, 5, 1)
		looks(t, full, api.Attr{}, n, 2, 1, 4, 7, 0)
		looks(t, api.Attr{}, api.Attr{Bold: true}, n, 2, 4, 4, 7, 1)
		looks(t, api.Attr{}, api.Attr{Fg: 5}, n, 2, 1, 2, 3, 38, 5, 4)
	}
}

// With neither, it alone is done, and what stands behind it is a number as any other.
func TestP1401SgrColorsByNeither(t *testing.T) {
	for _, n := range []int{38, 48} {
		for m := -1; m < 110; m++ {
			if m != 2 && m != 5 {
				looks(t, full, model(full, []int{m}), n, m)
				looks(t, full, model(full, []int{m, 31}), n, m, 31)
			}
		}
		looks(t, api.Attr{}, api.Attr{Fg: 5}, n, 38, 5, 4)
		looks(t, api.Attr{}, api.Attr{Bg: 5}, n, 48, 5, 4)
		looks(t, full, full, n, 3, 5, 2)
	}
}

// What lacks at the end is done, too: nothing changes.
func TestP1401SgrWhatLacks(t *testing.T) {
	for _, n := range []int{38, 48} {
		for _, l := range [][]int{{n}, {n, 5}, {n, 2}, {n, 2, 0}, {n, 2, 0, 0}, {n, n}, {n, n, 5}, {n, 2, 1, 4, 7}} {
			looks(t, full, full, l...)
			looks(t, full, api.Attr{Bold: true}, append([]int{0, 1}, l...)...)
		}
	}
}

// Each course of up to four numbers that mean something, and long ones, as the model has them.
func TestP1401SgrEveryCourse(t *testing.T) {
	letters := []int{-1, 0, 1, 2, 4, 5, 7, 15, 16, 22, 31, 38, 39, 48, 97, 107}
	var all func(l []int, n int)
	all = func(l []int, n int) {
		looks(t, full, model(full, l), l...)
		if n == 0 {
			return
		}
		for _, k := range letters {
			all(append(slices.Clone(l), k), n-1)
		}
	}
	all(nil, 4)
	for seed := range 3000 {
		next := randoms(seed)
		var l []int
		for range next(30) {
			l = append(l, letters[next(len(letters))])
		}
		looks(t, api.Attr{}, model(api.Attr{}, l), l...)
		if !Valid(Sgr(full, l...)) {
			t.Errorf("%v makes what is not Valid", l)
		}
	}
}

// Of an Attr that may not be, what is not named stays as it is.
func TestP1401SgrOfWhatIsNotValid(t *testing.T) {
	a := api.Attr{Fg: -1, Bg: 17}
	looks(t, a, api.Attr{Fg: -1, Bg: 17, Bold: true}, 1)
	looks(t, a, a, 38, 5, 16)
	looks(t, a, api.Attr{Fg: -1}, 49)
	looks(t, a, api.Attr{}, 0)
}
