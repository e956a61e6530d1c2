package bridge_test

import (
	"math/rand"
	"slices"

	"swarf/api"
)

// rng returns a range.
func rng(low, high int) api.Range { return api.Range{Min: low, Max: high} }

// logL, logK and slipS are L, K and S of the chapter's examples.
func logL() api.Log {
	return api.Log{Step: 10, Zero: rng(-5, 5), Events: []api.Event{
		{Kind: api.EventEmpty},
		{Kind: api.EventLoad, Shown: 6200, Change: rng(0, 3)},
		{Kind: api.EventLoad, Shown: 9800},
		{Kind: api.EventTest, Load: 1000, Shown: 1010, Change: rng(0, 3)},
		{Kind: api.EventLoad, Shown: 2700, Change: rng(0, 1)},
		{Kind: api.EventLoad, Shown: 3900},
	}}
}

func logK() api.Log {
	return api.Log{Step: 1, Zero: rng(0, 4), Events: []api.Event{
		{Kind: api.EventLoad, Shown: 100},
		{Kind: api.EventEmpty, Shown: 2, Change: rng(0, 4)},
		{Kind: api.EventLoad, Shown: 40},
	}}
}

func slipS() api.Slip {
	return api.Slip{Full: []int{1, 2}, Bare: []int{4, 5}, Driver: rng(70, 90)}
}

// withLog returns L with a change, withSlip S with one.
func withLog(change func(l *api.Log)) api.Log {
	l := logL()
	change(&l)
	return l
}

func withSlip(change func(s *api.Slip)) api.Slip {
	s := slipS()
	change(&s)
	return s
}

// copyLog and copySlip return copies that share no memory.
func copyLog(l api.Log) api.Log {
	l.Events = slices.Clone(l.Events)
	return l
}

func copySlip(s api.Slip) api.Slip {
	s.Full, s.Bare = slices.Clone(s.Full), slices.Clone(s.Bare)
	return s
}

// prefix returns a log with its first events only.
func prefix(l api.Log, events int) api.Log {
	l.Events = slices.Clone(l.Events[:events])
	return l
}

// shownFor returns the multiple of step that is nearest to weight, the greater one of two.
func shownFor(step, weight int) int {
	best := weight/step*step - 2*step
	for m := best; m <= weight+2*step; m += step {
		if distance(m, weight) <= distance(best, weight) {
			best = m
		}
	}
	return best
}

func distance(a, b int) int { return max(a-b, b-a) }

// loadsFor returns all loads that an event may have at a zero, found by trying them.
func loadsFor(step int, event api.Event, zero int) []int {
	low, high := 0, 0
	switch event.Kind {
	case api.EventTest:
		low, high = event.Load, event.Load
	case api.EventLoad:
		low, high = max(0, event.Shown-zero-2*step), min(api.MaxLoad, event.Shown-zero+2*step)
	}
	var list []int
	for load := low; load <= high; load++ {
		if shownFor(step, load+zero) == event.Shown {
			list = append(list, load)
		}
	}
	return list
}

// truths goes through all truths of a log, event by event, and visits each one's zeros and loads.
func truths(l api.Log, visit func(zeros, loads []int)) {
	zeros, loads := make([]int, len(l.Events)), make([]int, len(l.Events))
	var at func(event, before int)
	at = func(event, before int) {
		if event == len(l.Events) {
			visit(zeros, loads)
			return
		}
		change := l.Events[event].Change
		for zero := max(-api.MaxZero, before+change.Min); zero <= min(api.MaxZero, before+change.Max); zero++ {
			for _, load := range loadsFor(l.Step, l.Events[event], zero) {
				zeros[event], loads[event] = zero, load
				at(event+1, zero)
			}
		}
	}
	for zero := l.Zero.Min; zero <= l.Zero.Max; zero++ {
		at(0, zero)
	}
}

// found is a range that grows with each number that is added; some tells whether there was one.
type found struct {
	r    api.Range
	some bool
}

func (f *found) add(n int) {
	if !f.some {
		f.r, f.some = rng(n, n), true
	}
	f.r = rng(min(f.r.Min, n), max(f.r.Max, n))
}

// told is all that can be said of a log and a slip.
type told struct {
	zeros        []found
	net, paid    found
	event, width int
}

// netsOf returns all net weights of a slip with these loads.
func netsOf(s api.Slip, loads []int) []int {
	net := 0
	for _, event := range s.Full {
		net += loads[event]
	}
	for _, event := range s.Bare {
		net -= loads[event]
	}
	var list []int
	for _, full := range seatsFor(s.FullSeat) {
		for _, bare := range seatsFor(s.BareSeat) {
			for driver := s.Driver.Min; driver <= s.Driver.Max; driver++ {
				list = append(list, net-full*driver+bare*driver)
			}
		}
	}
	return list
}

// seatsFor returns how many drivers a lorry may hold.
func seatsFor(seat int) []int {
	return [][]int{{0}, {1}, {0, 1}}[seat]
}

// payFor returns what is paid for a net weight.
func payFor(net, dirt int) int {
	if net < 0 {
		return 0
	}
	return net * (1000 - dirt) / 1000
}

// tryAll says all of a log and a slip by going through all truths.
func tryAll(l api.Log, s api.Slip, dirt api.Range) told {
	all := told{zeros: make([]found, len(l.Events))}
	byZero := make([]map[int]*found, len(l.Events))
	for i := range byZero {
		byZero[i] = map[int]*found{}
	}
	truths(l, func(zeros, loads []int) {
		nets := netsOf(s, loads)
		for _, net := range nets {
			all.net.add(net)
			for d := dirt.Min; d <= dirt.Max; d++ {
				all.paid.add(payFor(net, d))
			}
		}
		for i, zero := range zeros {
			all.zeros[i].add(zero)
			if byZero[i][zero] == nil {
				byZero[i][zero] = &found{}
			}
			byZero[i][zero].add(slices.Min(nets))
			byZero[i][zero].add(slices.Max(nets))
		}
	})
	for i, list := range byZero {
		width := 0
		for _, net := range list {
			width = max(width, net.r.Max-net.r.Min)
		}
		if i == 0 || width < all.width {
			all.event, all.width = i, width
		}
	}
	return all
}

// between returns a random number from low to high.
func between(r *rand.Rand, low, high int) int { return low + r.Intn(high-low+1) }

// around returns a random range that has n in it, within the bounds -limit and limit.
func around(r *rand.Rand, n, wide, limit int) api.Range {
	return rng(max(-limit, n-r.Intn(wide+1)), min(limit, n+r.Intn(wide+1)))
}

// life is a log with the zeros and loads that were truly there.
type life struct {
	log          api.Log
	zeros, loads []int
}

// live returns a random log with the truth that it was made of; no load is farther than near from 0, from MaxLoad or from a weight between them.
func live(r *rand.Rand, events, step, wide, near int) life {
	zero := between(r, -3, 3)
	if r.Intn(4) == 0 {
		zero = []int{-api.MaxZero, api.MaxZero}[r.Intn(2)]
	}
	v := life{log: api.Log{Step: step, Zero: around(r, zero, wide, api.MaxZero)}}
	base := []int{0, 0, 20 * step, api.MaxLoad - near}[r.Intn(4)]
	for range events {
		next := between(r, max(-api.MaxZero, zero-wide), min(api.MaxZero, zero+wide))
		event := api.Event{Kind: between(r, api.EventEmpty, api.EventLoad), Change: around(r, next-zero, wide, api.MaxZero)}
		if r.Intn(2) == 0 {
			event.Kind = api.EventLoad
		}
		load := 0
		if event.Kind != api.EventEmpty {
			load = base + r.Intn(near+1)
		}
		event.Shown = shownFor(step, load+next)
		if distance(event.Shown, 0) > api.MaxLoad {
			load, event.Kind = 0, api.EventEmpty
			event.Shown = shownFor(step, next)
		}
		if event.Kind == api.EventTest {
			event.Load = load
		}
		zero = next
		v.log.Events = append(v.log.Events, event)
		v.zeros, v.loads = append(v.zeros, zero), append(v.loads, load)
	}
	return v
}

// slipFor returns a random slip of a log, if it has two events with loads.
func slipFor(r *rand.Rand, l api.Log) (api.Slip, bool) {
	var list []int
	for i, event := range l.Events {
		if event.Kind == api.EventLoad {
			list = append(list, i)
		}
	}
	if len(list) < 2 {
		return api.Slip{}, false
	}
	r.Shuffle(len(list), func(i, j int) { list[i], list[j] = list[j], list[i] })
	full := between(r, 1, min(api.MaxAxles, len(list)-1))
	bare := between(r, 1, min(api.MaxAxles, len(list)-full))
	s := api.Slip{Full: list[:full], Bare: list[full : full+bare], FullSeat: r.Intn(3), BareSeat: r.Intn(3)}
	slices.Sort(s.Full)
	slices.Sort(s.Bare)
	s.Driver.Min = r.Intn(3)
	s.Driver.Max = s.Driver.Min + r.Intn(3)
	return s, true
}

// inside tells whether a lies in b.
func inside(a, b api.Range) bool { return b.Min <= a.Min && a.Max <= b.Max }

// has tells whether n lies in r.
func has(r api.Range, n int) bool { return r.Min <= n && n <= r.Max }
