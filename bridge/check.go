package bridge

import (
	"swarf/api"
	"swarf/span"
)

// checkEvent returns the first error of an event on a bridge with that step.
func checkEvent(step int, event api.Event) api.Errno {
	if event.Kind != api.EventEmpty && event.Kind != api.EventTest && event.Kind != api.EventLoad {
		return api.ErrKind
	}
	if event.Shown < -api.MaxLoad || event.Shown > api.MaxLoad {
		return api.ErrValue
	}
	if event.Shown%step != 0 {
		return api.ErrForm
	}
	if event.Load < 0 || event.Load > api.MaxLoad {
		return api.ErrValue
	}
	if event.Load != 0 && event.Kind != api.EventTest {
		return api.ErrForm
	}
	return span.Check(event.Change, -api.MaxZero, api.MaxZero)
}

// checkAxles returns the first error of the events at which the axles of a lorry were weighed.
func checkAxles(l api.Log, axles []int) api.Errno {
	if e := span.Count(len(axles), 1, api.MaxAxles); e != api.OK {
		return e
	}
	before := -1
	for _, event := range axles {
		if event < 0 || event >= len(l.Events) {
			return api.ErrUnknown
		}
		if l.Events[event].Kind != api.EventLoad {
			return api.ErrKind
		}
		if event <= before {
			return api.ErrOrder
		}
		before = event
	}
	return api.OK
}

// isSeat tells whether seat is one of the kinds of seats.
func isSeat(seat int) bool {
	return seat == api.SeatEmpty || seat == api.SeatTaken || seat == api.SeatUnsure
}
