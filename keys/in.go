package keys

import "pontoon/api"

// In has the events of who takes them. A zero one is ready.
type In struct {
	queue // what was kept, and did not go by Next
}

// Take takes events; up to which number there are some then.
func (i *In) Take(first int, l ...api.Event) int {
	if i == nil {
		return 0
	}
	i.add(i.fresh(first, l)...)
	return i.Got()
}

// Next tells the first one that is kept, which goes.
func (i *In) Next() (api.Event, bool) {
	if i.Len() == 0 {
		return api.Event{}, false
	}
	e := i.kept[0]
	i.drop(1)
	return e, true
}

// Done tells how many went.
func (i *In) Done() int {
	if i == nil {
		return 0
	}
	return i.went.Now()
}

// Got tells the last number.
func (i *In) Got() int {
	if i == nil {
		return 0
	}
	return i.last.Now()
}

// Len tells how many are kept.
func (i *In) Len() int {
	if i == nil {
		return 0
	}
	return len(i.kept)
}

// fresh tells those of l that did not come yet; none, if one is missing ahead of them. What has a number below 1 is as if it came.
func (i *In) fresh(first int, l []api.Event) []api.Event {
	next := i.Got() + 1
	if first > next {
		return nil
	}
	first = max(first, next-len(l)) // all of l came: from a far number it would be too long a way for an int
	return l[next-first:]
}
