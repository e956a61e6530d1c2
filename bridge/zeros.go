package bridge

import (
	"iter"

	"swarf/api"
)

// zeros is what is known of the zero at each event.
type zeros [api.MaxEvents]api.Range

// meet returns what two ranges have in common; Min is greater than Max if they have nothing.
func meet(a, b api.Range) api.Range {
	return api.Range{Min: max(a.Min, b.Min), Max: min(a.Max, b.Max)}
}

// plus returns the sums of a number of a and one of b.
func plus(a, b api.Range) api.Range {
	return api.Range{Min: a.Min + b.Min, Max: a.Max + b.Max}
}

// spread returns how wide a range is.
func spread(r api.Range) int { return r.Max - r.Min }

// numbers hands out the numbers of a range, from the least one on.
func numbers(r api.Range) iter.Seq[int] {
	return func(yield func(int) bool) {
		for n := r.Min; n <= r.Max; n++ {
			if !yield(n) {
				return
			}
		}
	}
}

// onBridge returns what load and zero may be together at an event, by what is shown.
func onBridge(step int, event api.Event) api.Range {
	least := event.Shown - step/2
	return api.Range{Min: least, Max: least + step - 1}
}

// loads returns the loads that an event may have, whatever is shown.
func loads(event api.Event) api.Range {
	switch event.Kind {
	case api.EventTest:
		return api.Range{Min: event.Load, Max: event.Load}
	case api.EventLoad:
		return api.Range{Min: 0, Max: api.MaxLoad}
	}
	return api.Range{}
}

// shownZeros returns the zeros with which an event may show what it shows, whatever the other events are.
func shownZeros(step int, event api.Event) api.Range {
	total, load := onBridge(step, event), loads(event)
	zero := api.Range{Min: total.Min - load.Max, Max: total.Max - load.Min}
	return meet(zero, api.Range{Min: -api.MaxZero, Max: api.MaxZero})
}

// reachable returns for each event the zeros that it may have by itself and the events before it, up to the first event that has none, and how many events have one.
func reachable(l api.Log) (zeros, int) {
	var known zeros
	before := l.Zero
	for i, event := range l.Events {
		before = meet(plus(before, event.Change), shownZeros(l.Step, event))
		if before.Min > before.Max {
			return known, i
		}
		known[i] = before
	}
	return known, len(l.Events)
}

// zerosOf returns the zeros that each event of a log may have. A range tells them exactly, as each zero that is left at an event goes on to one that is left at the next event.
func zerosOf(l api.Log) (zeros, api.Errno) {
	if e := Check(l); e != api.OK {
		return zeros{}, e
	}
	known, fitting := reachable(l)
	if fitting < len(l.Events) {
		return zeros{}, api.ErrConflict
	}
	for i := len(l.Events) - 2; i >= 0; i-- {
		known[i] = meet(known[i], origins(known[i+1], l.Events[i+1].Change))
	}
	return known, api.OK
}

// origins returns the zeros that a change may turn into one of after.
func origins(after, change api.Range) api.Range {
	return api.Range{Min: after.Min - change.Max, Max: after.Max - change.Min}
}

// follow hands out the zeros that may follow, at the next event, a zero at an event.
func follow(l api.Log, known zeros, event, zero int) iter.Seq[int] {
	changed := plus(l.Events[event+1].Change, api.Range{Min: zero, Max: zero})
	return numbers(meet(changed, known[event+1]))
}
