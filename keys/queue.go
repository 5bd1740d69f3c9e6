package keys

import (
	"slices"
	"strings"

	"pontoon/api"
	"pontoon/tally"
)

// queue has events by their numbers, from 1 on: those that went, and behind them at most api.MaxKeys that are kept. A zero one is ready.
type queue struct {
	kept []api.Event
	went tally.Tally // the last number that did
	last tally.Tally // number there is
}

// add adds those ahead of the first one that is not Valid, or has no room; how many.
func (q *queue) add(l ...api.Event) int {
	n := 0
	for n < len(l) && Valid(l[n]) && len(q.kept) < api.MaxKeys {
		q.kept = append(q.kept, copied(l[n]))
		n++
	}
	q.last.Add(n)
	return n
}

// first tells the first n that are kept; fewer, if there are fewer.
func (q *queue) first(n int) []api.Event {
	var l []api.Event
	for k := range min(n, len(q.kept)) {
		l = append(l, copied(q.kept[k]))
	}
	return l
}

// drop lets the first n go, which must be kept.
func (q *queue) drop(n int) {
	q.kept = slices.Delete(q.kept, 0, n)
	q.went.Add(n)
}

// copied tells an event that shares no text with e: that may be a piece of a long one.
func copied(e api.Event) api.Event {
	e.Text = strings.Clone(e.Text)
	return e
}
