package cell

import "pontoon/api"

// Numbers of Sgr that ask for a color by those that stand behind them.
const (
	chooseFg = 38
	chooseBg = 48

	byNumber = 5 // one more stands behind it
	byParts  = 2 // three more do: a color that no Attr has
)

const (
	fgToBg     = 10 // what asks for a color of Bg is so much above what asks for it of Fg
	lastChosen = 15 // color by number; as an Attr's it is one more
)

// Sgr tells an attribute that was changed.
func Sgr(a api.Attr, nums ...int) api.Attr {
	if len(nums) == 0 {
		return api.Attr{}
	}
	for len(nums) > 0 {
		done := 1
		switch nums[0] {
		case chooseFg:
			a.Fg, done = choose(a.Fg, nums)
		case chooseBg:
			a.Bg, done = choose(a.Bg, nums)
		default:
			a = change(a, nums[0])
		}
		nums = nums[min(done, len(nums)):]
	}
	return a
}

// change does a number that needs no other one.
func change(a api.Attr, n int) api.Attr {
	switch n {
	case -1, 0:
		return api.Attr{}
	case 1, 22:
		a.Bold = n == 1
	case 4, 24:
		a.Under = n == 4
	case 7, 27:
		a.Inverse = n == 7
	}
	if c, ok := color(n); ok {
		a.Fg = c
	}
	if c, ok := color(n - fgToBg); ok {
		a.Bg = c
	}
	return a
}

// color tells the color that a number asks for, if it is one that asks for Fg.
func color(n int) (int, bool) {
	switch {
	case n >= 30 && n <= 37:
		return n - 30 + 1, true
	case n >= 90 && n <= 97:
		return n - 90 + 9, true
	case n == 39:
		return 0, true
	}
	return 0, false
}

// choose tells what becomes of a color by the numbers of which the first one chooses, and how many of them are done; there may be fewer.
func choose(was int, nums []int) (int, int) {
	if len(nums) < 2 {
		return was, 1
	}
	switch nums[1] {
	case byNumber:
		if len(nums) > 2 && nums[2] >= 0 && nums[2] <= lastChosen {
			return nums[2] + 1, 3
		}
		return was, 3
	case byParts:
		return was, 5
	}
	return was, 1
}
