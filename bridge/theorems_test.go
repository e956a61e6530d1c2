package bridge_test

import (
	"math/rand"
	"slices"
	"testing"

	"swarf/api"
	"swarf/bridge"
)

// TestP1_5True: logs are made of a truth, of up to 14 events, and what is told has this truth in it.
func TestP1_5True(t *testing.T) {
	r := rand.New(rand.NewSource(5))
	for range 400 {
		v := live(r, between(r, 2, api.MaxEvents), between(r, 1, api.MaxStep), 20, 3000)
		zeros, e := bridge.Zeros(v.log)
		if e != api.OK || len(zeros) != len(v.zeros) {
			t.Fatalf("%v: %v %d", v.log, zeros, e)
		}
		for i, zero := range v.zeros {
			if !has(zeros[i], zero) {
				t.Fatalf("%v: zero %d is %d, not in %v", v.log, i, zero, zeros[i])
			}
		}
		s, ok := slipFor(r, v.log)
		if !ok {
			continue
		}
		dirt := r.Intn(1001)
		net, e := bridge.Net(v.log, s)
		paid, f := bridge.Paid(v.log, s, around(r, dirt, min(dirt, 1000-dirt), 1000))
		for _, weight := range netsOf(s, v.loads) {
			if e != api.OK || !has(net, weight) || f != api.OK || !has(paid, payFor(weight, dirt)) {
				t.Fatalf("%v %v: net %d, told %v %d; paid %v %d", v.log, s, weight, net, e, paid, f)
			}
		}
	}
}

// smallLog returns a log with few truths, sometimes with an event that may contradict the others.
func smallLog(r *rand.Rand) api.Log {
	v := live(r, between(r, 1, 4), []int{1, 2, 3, 4, 5}[r.Intn(5)], between(r, 0, 2), 4)
	if r.Intn(3) == 0 {
		event := &v.log.Events[r.Intn(len(v.log.Events))]
		shown := event.Shown + between(r, -2, 2)*v.log.Step
		if distance(shown, 0) <= api.MaxLoad {
			event.Shown = shown
		}
	}
	return v.log
}

// TestP1_6Ends: all truths of small logs are gone through; both ends of each range are reached, and none is beyond.
func TestP1_6Ends(t *testing.T) {
	r := rand.New(rand.NewSource(6))
	slips, conflicts := 0, 0
	for range 3000 {
		l := smallLog(r)
		s, hasSlip := slipFor(r, l)
		if !hasSlip {
			s = api.Slip{}
		}
		dirt := around(r, 500, 2, 1000)
		all := tryAll(l, s, dirt)
		zeros, e := bridge.Zeros(l)
		if all.net.some != (e == api.OK) || !all.net.some && e != api.ErrConflict {
			t.Fatalf("%v: may be: %v, Zeros %d", l, all.net.some, e)
		}
		if e != api.OK {
			conflicts++
			continue
		}
		for i, want := range all.zeros {
			if zeros[i] != want.r {
				t.Fatalf("%v: Zeros %v, not %v", l, zeros, all.zeros)
			}
		}
		if !hasSlip {
			continue
		}
		slips++
		net, a := bridge.Net(l, s)
		paid, b := bridge.Paid(l, s, dirt)
		if a != api.OK || net != all.net.r || b != api.OK || paid != all.paid.r {
			t.Fatalf("%v %v: Net %v %d, Paid %v %d, not %v %v", l, s, net, a, paid, b, all.net.r, all.paid.r)
		}
		event, width, d := bridge.Best(l, s)
		if d != api.OK || event != all.event || width != all.width {
			t.Fatalf("%v %v: Best %d %d %d, not %d %d", l, s, event, width, d, all.event, all.width)
		}
	}
	if slips < 300 || conflicts < 100 {
		t.Error("too few logs were looked at", slips, conflicts)
	}
}

// mayBe tells whether a log has a truth.
func mayBe(l api.Log) bool {
	some := false
	truths(l, func(zeros, loads []int) { some = true })
	return some
}

// TestP1_7First: the events up to the one before the named one may be, with the named one they may not.
func TestP1_7First(t *testing.T) {
	r := rand.New(rand.NewSource(7))
	conflicts := 0
	for range 3000 {
		l := smallLog(r)
		event, e := bridge.Conflict(l)
		if e == api.ErrUnknown {
			if event != 0 || !mayBe(l) {
				t.Fatalf("%v may not be", l)
			}
			continue
		}
		conflicts++
		if e != api.OK || !mayBe(prefix(l, event)) || mayBe(prefix(l, event+1)) {
			t.Fatalf("%v: Conflict %d %d", l, event, e)
		}
	}
	if conflicts < 100 {
		t.Error("too few logs were looked at", conflicts)
	}
}

// noWider fails unless each range that is told of more lies in that of less.
func noWider(t *testing.T, less, more api.Log, s api.Slip, isSlip bool) {
	t.Helper()
	zeros, _ := bridge.Zeros(more)
	for i, wide := range first(bridge.Zeros(less)) {
		if !inside(zeros[i], wide) {
			t.Fatalf("%v, then %v: zero %d is wider", less, more, i)
		}
	}
	if !isSlip {
		return
	}
	dirt := rng(10, 20)
	if !inside(first(bridge.Net(more, s)), first(bridge.Net(less, s))) || !inside(first(bridge.Paid(more, s, dirt)), first(bridge.Paid(less, s, dirt))) {
		t.Fatalf("%v, then %v: %v weighs wider", less, more, s)
	}
}

// first returns the first one of two results.
func first[T any](value T, e api.Errno) T { return value }

// narrowed returns a random range within one.
func narrowed(r *rand.Rand, wide api.Range) api.Range {
	low := between(r, wide.Min, wide.Max)
	return rng(low, between(r, low, wide.Max))
}

// TestP1_8More: with narrower ranges, or one event more, no range is wider.
func TestP1_8More(t *testing.T) {
	r := rand.New(rand.NewSource(8))
	narrow, longer := 0, 0
	for range 1500 {
		v := live(r, between(r, 2, api.MaxEvents), between(r, 1, 30), 8, 500)
		s, isSlip := slipFor(r, v.log)
		more := copyLog(v.log)
		more.Zero = narrowed(r, more.Zero)
		event := &more.Events[r.Intn(len(more.Events))]
		event.Change = narrowed(r, event.Change)
		if _, e := bridge.Zeros(more); e == api.OK {
			narrow++
			noWider(t, v.log, more, s, isSlip)
		}
		less := prefix(v.log, len(v.log.Events)-1)
		s, isSlip = slipFor(r, less)
		longer++
		noWider(t, less, v.log, s, isSlip)
	}
	if narrow < 300 || longer < 300 {
		t.Error("too few logs were looked at", narrow, longer)
	}
}

// TestP1_9Driver: a driver in both lorries or in none counts for nothing, one who may have for no more than MaxDriver.
func TestP1_9Driver(t *testing.T) {
	r := rand.New(rand.NewSource(9))
	for range 500 {
		v := live(r, 6, between(r, 1, 20), 5, 300)
		s, ok := slipFor(r, v.log)
		if !ok {
			continue
		}
		s.Driver = rng(r.Intn(100), between(r, 100, 200))
		seated := func(full, bare int) api.Range {
			other := copySlip(s)
			other.FullSeat, other.BareSeat = full, bare
			return first(bridge.Net(v.log, other))
		}
		none := seated(api.SeatEmpty, api.SeatEmpty)
		if both := seated(api.SeatTaken, api.SeatTaken); both != none {
			t.Fatalf("%v %v: %v with the driver both times, %v without", v.log, s, both, none)
		}
		for full := range 3 {
			for bare := range 3 {
				net := seated(full, bare)
				if net.Min < none.Min-s.Driver.Max || net.Max > none.Max+s.Driver.Max {
					t.Fatalf("%v %v: %v with the driver, %v without", v.log, s, net, none)
				}
			}
		}
		if net := seated(api.SeatUnsure, api.SeatUnsure); net != rng(none.Min-s.Driver.Max, none.Max+s.Driver.Max) {
			t.Fatalf("%v %v: %v with the driver, perhaps", v.log, s, net)
		}
	}
}

// TestP1_10MoreLoad: a step more at each full axle is as many steps of net weight.
func TestP1_10MoreLoad(t *testing.T) {
	r := rand.New(rand.NewSource(10))
	for range 500 {
		v := live(r, between(r, 2, 8), between(r, 1, 50), 8, 300)
		for i := range v.log.Events {
			if v.log.Events[i].Kind == api.EventLoad {
				v.log.Events[i].Shown = v.log.Step * between(r, 20, 400)
				if v.log.Events[i].Shown < 1000 {
					v.log.Events[i].Shown += v.log.Step * 1000
				}
			}
		}
		s, ok := slipFor(r, v.log)
		if !ok {
			continue
		}
		more := copyLog(v.log)
		for _, event := range s.Full {
			more.Events[event].Shown += more.Step
		}
		old, e := bridge.Net(v.log, s)
		net, f := bridge.Net(more, s)
		if by := len(s.Full) * more.Step; e != f || e == api.OK && net != rng(old.Min+by, old.Max+by) {
			t.Fatalf("%v %v: %v %d, then %v %d", v.log, s, old, e, net, f)
		}
	}
}

// known returns a log and a slip with two tests behind an event that leave it only that zero.
func known(l api.Log, s api.Slip, event, zero int) (api.Log, api.Slip) {
	shown := 300 * l.Step
	low := api.Event{Kind: api.EventTest, Shown: shown, Load: shown - l.Step/2 - zero}
	high := low
	high.Load += l.Step - 1
	l.Events = slices.Insert(slices.Clone(l.Events), event+1, low, high)
	s = copySlip(s)
	for _, axles := range [][]int{s.Full, s.Bare} {
		for i := range axles {
			if axles[i] > event {
				axles[i] += 2
			}
		}
	}
	return l, s
}

// TestP1_11Best: the zero of each event is made known by tests, one zero after the other.
func TestP1_11Best(t *testing.T) {
	r := rand.New(rand.NewSource(11))
	for range 300 {
		v := live(r, between(r, 2, api.MaxEvents-2), between(r, 1, 10), 3, 300)
		s, ok := slipFor(r, v.log)
		if !ok {
			continue
		}
		best, width, _ := bridge.Best(v.log, s)
		for event, zeros := range first(bridge.Zeros(v.log)) {
			widest := 0
			for zero := zeros.Min; zero <= zeros.Max; zero++ {
				l, other := known(v.log, s, event, zero)
				net, e := bridge.Net(l, other)
				if e != api.OK {
					t.Fatalf("%v: no zero %d at %d", v.log, zero, event)
				}
				widest = max(widest, net.Max-net.Min)
			}
			if widest < width || event < best && widest == width || event == best && widest != width {
				t.Fatalf("%v %v: Best %d %d, but %d has %d", v.log, s, best, width, event, widest)
			}
		}
	}
}

// joined returns the axles of two lists in their order.
func joined(a, b []int) []int {
	list := slices.Concat(a, b)
	slices.Sort(list)
	return list
}

// TestP1_12Together: two slips in one weigh no less and no more than both together.
func TestP1_12Together(t *testing.T) {
	r := rand.New(rand.NewSource(12))
	pairs := 0
	for range 2000 {
		v := live(r, between(r, 6, api.MaxEvents), between(r, 1, 20), 8, 300)
		whole, ok := slipFor(r, v.log)
		if !ok || len(whole.Full) < 2 || len(whole.Bare) < 2 {
			continue
		}
		pairs++
		a := api.Slip{Full: whole.Full[:1], Bare: whole.Bare[1:]}
		b := api.Slip{Full: whole.Full[1:], Bare: whole.Bare[:1]}
		both := api.Slip{Full: joined(a.Full, b.Full), Bare: joined(a.Bare, b.Bare)}
		x, y := first(bridge.Net(v.log, a)), first(bridge.Net(v.log, b))
		net, e := bridge.Net(v.log, both)
		if e != api.OK || !inside(net, rng(x.Min+y.Min, x.Max+y.Max)) {
			t.Fatalf("%v: %v weighs %v %d, but its parts %v and %v", v.log, both, net, e, x, y)
		}
	}
	if pairs < 100 {
		t.Error("too few slips were looked at", pairs)
	}
}
