// Package bridge is about a weighbridge whose zero wanders, and tells what a lorry that was weighed on it may weigh.
package bridge

import (
	"swarf/api"
	"swarf/span"
)

// Check returns the first error of a log.
func Check(l api.Log) api.Errno {
	if l.Step < 1 || l.Step > api.MaxStep {
		return api.ErrValue
	}
	if e := span.Check(l.Zero, -api.MaxZero, api.MaxZero); e != api.OK {
		return e
	}
	if len(l.Events) > api.MaxEvents {
		return api.ErrMany
	}
	for _, event := range l.Events {
		if e := checkEvent(l.Step, event); e != api.OK {
			return e
		}
	}
	return api.OK
}

// Zeros returns for each event the least and the greatest zero that it may have.
func Zeros(l api.Log) ([]api.Range, api.Errno) {
	known, e := zerosOf(l)
	if e != api.OK {
		return nil, e
	}
	list := make([]api.Range, len(l.Events))
	copy(list, known[:])
	return list, api.OK
}

// Conflict returns the number of the first event that contradicts those before it.
func Conflict(l api.Log) (int, api.Errno) {
	if e := Check(l); e != api.OK {
		return 0, e
	}
	_, fitting := reachable(l)
	if fitting == len(l.Events) {
		return 0, api.ErrUnknown
	}
	return fitting, api.OK
}

// CheckSlip returns the error of the log, or the first error of the slip.
func CheckSlip(l api.Log, s api.Slip) api.Errno {
	if e := Check(l); e != api.OK {
		return e
	}
	if e := checkAxles(l, s.Full); e != api.OK {
		return e
	}
	if e := checkAxles(l, s.Bare); e != api.OK {
		return e
	}
	if len(wantedEvents(s)) < len(s.Full)+len(s.Bare) {
		return api.ErrRepeat
	}
	if !isSeat(s.FullSeat) || !isSeat(s.BareSeat) {
		return api.ErrKind
	}
	return span.Check(s.Driver, 0, api.MaxDriver)
}

// Net returns the least and the greatest net weight of a slip.
func Net(l api.Log, s api.Slip) (api.Range, api.Errno) {
	if e := CheckSlip(l, s); e != api.OK {
		return api.Range{}, e
	}
	known, e := zerosOf(l)
	if e != api.OK {
		return api.Range{}, e
	}
	return span.Plus(netLoads(l, known, weigher(l, s)), driverShare(s)), api.OK
}

// Paid returns the least and the greatest weight that is paid when dirt thousandths are taken off.
func Paid(l api.Log, s api.Slip, dirt api.Range) (api.Range, api.Errno) {
	if e := CheckSlip(l, s); e != api.OK {
		return api.Range{}, e
	}
	if e := span.Check(dirt, 0, api.MaxDirt); e != api.OK {
		return api.Range{}, e
	}
	net, e := Net(l, s)
	if e != api.OK {
		return api.Range{}, e
	}
	return api.Range{Min: clean(net.Min, dirt.Max), Max: clean(net.Max, dirt.Min)}, api.OK
}

// clean returns what is paid for a net weight of which dirt thousandths are dirt.
func clean(net, dirt int) int {
	return max(0, net) * (api.MaxDirt - dirt) / api.MaxDirt
}

// choice is an event whose zero may be looked up, and how wide the net weight is then at most.
type choice struct{ event, width int }

// Best returns the event whose zero is best to be known, and how wide the net weight is then at most.
func Best(l api.Log, s api.Slip) (event, width int, e api.Errno) {
	if e := CheckSlip(l, s); e != api.OK {
		return 0, 0, e
	}
	known, e := zerosOf(l)
	if e != api.OK {
		return 0, 0, e
	}
	narrower := func(a, b choice) bool { return a.width < b.width }
	best := choice{width: farthest}
	for i, widest := range widths(l, known, weigher(l, s)) {
		next := choice{event: i, width: widest + spread(driverShare(s))}
		best = better(best, next, narrower)
	}
	return best.event, best.width, api.OK
}

// better returns b if it is better than a, and else a, so that the first one of several equally good ones stays.
func better[T any](a, b T, isBetter func(a, b T) bool) T {
	if isBetter(b, a) {
		return b
	}
	return a
}
