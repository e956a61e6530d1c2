package bridge

import (
	"swarf/api"
	"swarf/span"
)

// tally has for each zero, from -MaxZero on, what truths with it weigh at least and at most.
type tally [2*api.MaxZero + 1]api.Range

// place returns where a tally has a zero.
func place(zero int) int { return zero + api.MaxZero }

// farthest is beyond any weight of a slip.
const farthest = 1 << 30

// nothing returns the range that any other one replaces when cover joins them.
func nothing() api.Range { return api.Range{Min: farthest, Max: -farthest} }

// cover returns the least range in which a and b lie.
func cover(a, b api.Range) api.Range {
	return api.Range{Min: min(a.Min, b.Min), Max: max(a.Max, b.Max)}
}

// wantedEvents maps the events of a slip to how often their loads count for the net weight: 1 or -1.
func wantedEvents(s api.Slip) map[int]int {
	wanted := make(map[int]int)
	for _, event := range s.Full {
		wanted[event] = 1
	}
	for _, event := range s.Bare {
		wanted[event] = -1
	}
	return wanted
}

// weigher returns a function that tells what an event with that zero adds to the net weight of a slip, at least and at most.
func weigher(l api.Log, s api.Slip) func(event, zero int) api.Range {
	wanted := wantedEvents(s)
	return func(event, zero int) api.Range {
		total := onBridge(l.Step, l.Events[event])
		load := span.Meet(span.Minus(total, span.Just(zero)), loads(l.Events[event]))
		switch wanted[event] {
		case 1:
			return load
		case -1:
			return span.Minus(span.Just(0), load)
		}
		return api.Range{}
	}
}

// weightsFrom returns for each event and zero what truths weigh from this event on.
func weightsFrom(l api.Log, known zeros, weigh func(event, zero int) api.Range) []tally {
	list := make([]tally, len(l.Events))
	last := len(l.Events) - 1
	for event := last; event >= 0; event-- {
		for zero := range numbers(known[event]) {
			var rest api.Range
			if event < last {
				rest = nothing()
				for next := range follow(l, known, event, zero) {
					rest = cover(rest, list[event+1][place(next)])
				}
			}
			list[event][place(zero)] = span.Plus(weigh(event, zero), rest)
		}
	}
	return list
}

// weightsBefore returns for each event and zero what truths weigh before this event.
func weightsBefore(l api.Log, known zeros, weigh func(event, zero int) api.Range) []tally {
	list := make([]tally, len(l.Events))
	for event := range len(l.Events) - 1 {
		for next := range numbers(known[event+1]) {
			list[event+1][place(next)] = nothing()
		}
		for zero := range numbers(known[event]) {
			soFar := span.Plus(list[event][place(zero)], weigh(event, zero))
			for next := range follow(l, known, event, zero) {
				list[event+1][place(next)] = cover(list[event+1][place(next)], soFar)
			}
		}
	}
	return list
}

// netLoads returns the net weight of a slip, without a driver.
func netLoads(l api.Log, known zeros, weigh func(event, zero int) api.Range) api.Range {
	list := weightsFrom(l, known, weigh)
	net := nothing()
	for zero := range numbers(known[0]) {
		net = cover(net, list[0][place(zero)])
	}
	return net
}

// widths returns for each event how wide the net weight without a driver is at most, once its zero is known.
func widths(l api.Log, known zeros, weigh func(event, zero int) api.Range) []int {
	earlier, later := weightsBefore(l, known, weigh), weightsFrom(l, known, weigh)
	list := make([]int, len(l.Events))
	for event := range l.Events {
		for zero := range numbers(known[event]) {
			net := span.Plus(earlier[event][place(zero)], later[event][place(zero)])
			list[event] = max(list[event], spread(net))
		}
	}
	return list
}

// drivers returns how many drivers may sit in a lorry.
func drivers(seat int) api.Range {
	switch seat {
	case api.SeatTaken:
		return span.Just(1)
	case api.SeatUnsure:
		return api.Range{Min: 0, Max: 1}
	}
	return api.Range{}
}

// driverShare returns what the driver adds to the net weight. The driver weighs the same both times, so only how often the driver counts matters, not when.
func driverShare(s api.Slip) api.Range {
	times := span.Minus(drivers(s.BareSeat), drivers(s.FullSeat))
	return api.Range{
		Min: min(times.Min*s.Driver.Min, times.Min*s.Driver.Max),
		Max: max(times.Max*s.Driver.Min, times.Max*s.Driver.Max),
	}
}
