package bridge

import (
	"iter"

	"swarf/api"
	"swarf/span"
)

// zeros is what is known of the zero at each event.
type zeros [api.MaxEvents]api.Range

// spread returns how wide a range is.
func spread(r api.Range) int { return r.Max - r.Min }

// numbers hands out the numbers of a range, from the least one on.
func numbers(r api.Range) iter.Seq[int] {
	return func(yield func(int) bool) {
		for n := r.Min; n <= r.Max; n++ {
			if !yield(n) {
				return
			}
		}
	}
}

// onBridge returns what load and zero may be together at an event, by what is shown.
func onBridge(step int, event api.Event) api.Range {
	least := event.Shown - step/2
	return api.Range{Min: least, Max: least + step - 1}
}

// loads returns the loads that an event may have, whatever is shown.
func loads(event api.Event) api.Range {
	switch event.Kind {
	case api.EventTest:
		return span.Just(event.Load)
	case api.EventLoad:
		return api.Range{Min: 0, Max: api.MaxLoad}
	}
	return api.Range{}
}

// shownZeros returns the zeros with which an event may show what it shows, whatever the other events are.
func shownZeros(step int, event api.Event) api.Range {
	zero := span.Minus(onBridge(step, event), loads(event))
	return span.Meet(zero, api.Range{Min: -api.MaxZero, Max: api.MaxZero})
}

// reachable returns for each event the zeros that it may have by itself and the events before it, up to the first event that has none, and how many events have one.
func reachable(l api.Log) (zeros, int) {
	var known zeros
	before := l.Zero
	for i, event := range l.Events {
		before = span.Meet(span.Plus(before, event.Change), shownZeros(l.Step, event))
		if before.Min > before.Max {
			return known, i
		}
		known[i] = before
	}
	return known, len(l.Events)
}

// zerosOf returns the zeros that each event of a log may have. A range tells them exactly, as each zero that is left at an event goes on to one that is left at the next event.
func zerosOf(l api.Log) (zeros, api.Errno) {
	if e := Check(l); e != api.OK {
		return zeros{}, e
	}
	known, fitting := reachable(l)
	if fitting < len(l.Events) {
		return zeros{}, api.ErrConflict
	}
	for i := len(l.Events) - 2; i >= 0; i-- {
		// The zeros that a change may turn into one of the next event.
		origins := span.Minus(known[i+1], l.Events[i+1].Change)
		known[i] = span.Meet(known[i], origins)
	}
	return known, api.OK
}

// follow hands out the zeros that may follow, at the next event, a zero at an event.
func follow(l api.Log, known zeros, event, zero int) iter.Seq[int] {
	changed := span.Plus(l.Events[event+1].Change, span.Just(zero))
	return numbers(span.Meet(changed, known[event+1]))
}
