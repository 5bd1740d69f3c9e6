package keys

import "pontoon/api"

// Out has the events of who sends them. A zero one is ready.
type Out struct {
	queue // what waits
}

// Add adds events; how many.
func (o *Out) Add(l ...api.Event) int {
	if o == nil {
		return 0
	}
	return o.add(l...)
}

// Ack says up to which number they were taken; how many went.
func (o *Out) Ack(n int) int {
	if n <= o.Acked() || n > o.Top() {
		return 0
	}
	went := n - o.Acked()
	o.drop(went)
	return went
}

// Wait tells the first ones that wait, and the number of the first one of all.
func (o *Out) Wait(most int) (int, []api.Event) {
	if o.Acked() == o.Top() {
		return 0, nil
	}
	return o.Acked() + 1, o.first(most)
}

// Top tells the last number.
func (o *Out) Top() int {
	if o == nil {
		return 0
	}
	return o.last.Now()
}

// Acked tells up to which number they were taken.
func (o *Out) Acked() int {
	if o == nil {
		return 0
	}
	return o.went.Now()
}
