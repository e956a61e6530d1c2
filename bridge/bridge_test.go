package bridge_test

import (
	"math"
	"slices"
	"testing"

	"swarf/api"
	"swarf/bridge"
)

// logErrors are logs with their first errors, in the chapter's order: each one has an error that comes later, too, where there is one.
var logErrors = []struct {
	name   string
	change func(l *api.Log)
	want   api.Errno
}{
	{"as it is", func(l *api.Log) {}, api.OK},
	{"no events", func(l *api.Log) { l.Events = nil }, api.OK},
	{"step 0", func(l *api.Log) { l.Step, l.Zero = 0, rng(1, 0) }, api.ErrValue},
	{"step below 0", func(l *api.Log) { l.Step = -10 }, api.ErrValue},
	{"step 100", func(l *api.Log) { l.Step, l.Events[3].Shown = 100, 1000 }, api.OK},
	{"step 101", func(l *api.Log) { l.Step = 101 }, api.ErrValue},
	{"zero -200..200", func(l *api.Log) { l.Zero = rng(-200, 200) }, api.OK},
	{"zero from -201", func(l *api.Log) { l.Zero = rng(-201, 0) }, api.ErrValue},
	{"zero to 201", func(l *api.Log) { l.Zero = rng(0, 201) }, api.ErrValue},
	{"zero from 201 to 0", func(l *api.Log) { l.Zero = rng(201, 0) }, api.ErrValue},
	{"zero from 0 to -201", func(l *api.Log) { l.Zero = rng(0, -201) }, api.ErrValue},
	{"zero turned, many events", func(l *api.Log) { l.Zero, l.Events = rng(1, 0), make([]api.Event, 15) }, api.ErrOrder},
	{"14 events", func(l *api.Log) { l.Events = slices.Repeat(l.Events[:1], 14) }, api.OK},
	{"15 events of no kind", func(l *api.Log) { l.Events = make([]api.Event, 15) }, api.ErrMany},
	{"kind 0", func(l *api.Log) { l.Events[0].Kind, l.Events[0].Shown = 0, 60010 }, api.ErrKind},
	{"kind 4", func(l *api.Log) { l.Events[5].Kind = 4 }, api.ErrKind},
	{"the first event first", func(l *api.Log) { l.Events[0].Change, l.Events[1].Kind = rng(1, 0), 0 }, api.ErrOrder},
	{"60000 shown", func(l *api.Log) { l.Events[1].Shown = 60000 }, api.OK},
	{"-60000 shown", func(l *api.Log) { l.Events[1].Shown = -60000 }, api.OK},
	{"60001 shown", func(l *api.Log) { l.Events[1].Shown = 60001 }, api.ErrValue},
	{"-60010 shown", func(l *api.Log) { l.Events[1].Shown = -60010 }, api.ErrValue},
	{"no multiple", func(l *api.Log) { l.Events[1].Shown, l.Events[1].Load = 6205, 60001 }, api.ErrForm},
	{"no multiple below 0", func(l *api.Log) { l.Events[1].Shown = -5 }, api.ErrForm},
	{"load -1", func(l *api.Log) { l.Events[1].Load = -1 }, api.ErrValue},
	{"load 60001", func(l *api.Log) { l.Events[3].Load = 60001 }, api.ErrValue},
	{"test load 60000", func(l *api.Log) { l.Events[3].Load = 60000 }, api.OK},
	{"load when empty", func(l *api.Log) { l.Events[0].Load, l.Events[0].Change = 5, rng(0, 201) }, api.ErrForm},
	{"load when loaded", func(l *api.Log) { l.Events[1].Load = 6200 }, api.ErrForm},
	{"change -200..200", func(l *api.Log) { l.Events[5].Change = rng(-200, 200) }, api.OK},
	{"change from -201", func(l *api.Log) { l.Events[5].Change = rng(-201, 0) }, api.ErrValue},
	{"change to 201", func(l *api.Log) { l.Events[5].Change = rng(0, 201) }, api.ErrValue},
	{"change 1..0", func(l *api.Log) { l.Events[5].Change = rng(1, 0) }, api.ErrOrder},
}

// TestP1_1Check: Check, and all functions that return its error first.
func TestP1_1Check(t *testing.T) {
	for _, c := range logErrors {
		l := withLog(c.change)
		if e := bridge.Check(l); e != c.want {
			t.Errorf("%s: Check %d, not %d", c.name, e, c.want)
		}
		if c.want == api.OK {
			continue
		}
		bad := api.Slip{FullSeat: 9}
		zeros, a := bridge.Zeros(l)
		event, b := bridge.Conflict(l)
		d := bridge.CheckSlip(l, bad)
		net, f := bridge.Net(l, bad)
		paid, g := bridge.Paid(l, bad, rng(1, 0))
		best, width, h := bridge.Best(l, bad)
		tape, j := bridge.Write(l)
		for i, e := range []api.Errno{a, b, d, f, g, h, j} {
			if e != c.want {
				t.Errorf("%s: function %d returns %d, not %d", c.name, i, e, c.want)
			}
		}
		if zeros != nil || event != 0 || net != rng(0, 0) || paid != rng(0, 0) || best != 0 || width != 0 || tape != "" {
			t.Errorf("%s: results beside an error", c.name)
		}
	}
}

// TestP1_1Zeros: Zeros and Conflict, at ordinary logs and at the edges.
func TestP1_1Zeros(t *testing.T) {
	one := func(step int, zero api.Range, event api.Event) api.Log {
		return api.Log{Step: step, Zero: zero, Events: []api.Event{event}}
	}
	const none = -1
	for _, c := range []struct {
		name  string
		l     api.Log
		zeros []api.Range
		first int
	}{
		{"L", logL(), []api.Range{rng(-1, 4), rng(2, 7), rng(2, 7), rng(5, 10), rng(5, 11), rng(5, 11)}, none},
		{"K", logK(), []api.Range{rng(0, 2), rng(2, 2), rng(2, 2)}, none},
		{"no events", api.Log{Step: 7, Zero: rng(3, 4)}, nil, none},
		{"1020 shown at 3", withLog(func(l *api.Log) { l.Events[3].Shown = 1020 }), nil, 3},
		{"contradicted twice", withLog(func(l *api.Log) { l.Events[1].Shown, l.Events[3].Shown = -10, 1020 }), nil, 1},
		{"the first event", withLog(func(l *api.Log) { l.Events[0].Shown = 20 }), nil, 0},
		{"even step, empty", one(10, rng(-200, 200), api.Event{Kind: api.EventEmpty, Shown: 30}), []api.Range{rng(25, 34)}, none},
		{"even step, below 0", one(10, rng(-200, 200), api.Event{Kind: api.EventEmpty, Shown: -30}), []api.Range{rng(-35, -26)}, none},
		{"odd step, empty", one(5, rng(-200, 200), api.Event{Kind: api.EventEmpty, Shown: -30}), []api.Range{rng(-32, -28)}, none},
		{"test", one(10, rng(-200, 200), api.Event{Kind: api.EventTest, Load: 70, Shown: 30}), []api.Range{rng(-45, -36)}, none},
		{"no load below 0", one(10, rng(-200, 200), api.Event{Kind: api.EventLoad, Shown: -30}), []api.Range{rng(-200, -26)}, none},
		{"no load above MaxLoad", one(10, rng(-200, 200), api.Event{Kind: api.EventLoad, Shown: 60000}), []api.Range{rng(-5, 200)}, none},
		{"any load", one(10, rng(-200, 200), api.Event{Kind: api.EventLoad, Shown: 500}), []api.Range{rng(-200, 200)}, none},
		{"the first change counts", one(1, rng(0, 2), api.Event{Kind: api.EventLoad, Shown: 500, Change: rng(3, 4)}), []api.Range{rng(3, 6)}, none},
		{"no zero above 200", one(1, rng(190, 200), api.Event{Kind: api.EventLoad, Shown: 500, Change: rng(5, 20)}), []api.Range{rng(195, 200)}, none},
		{"no zero below -200", one(1, rng(-200, -190), api.Event{Kind: api.EventLoad, Shown: 500, Change: rng(-20, -5)}), []api.Range{rng(-200, -195)}, none},
		{"beyond 200 only", one(1, rng(190, 200), api.Event{Kind: api.EventLoad, Shown: 500, Change: rng(11, 20)}), nil, 0},
	} {
		want, first, other := api.OK, 0, api.ErrUnknown
		if c.first != none {
			want, first, other = api.ErrConflict, c.first, api.OK
		}
		if zeros, e := bridge.Zeros(c.l); e != want || !slices.Equal(zeros, c.zeros) {
			t.Errorf("%s: Zeros %v %d", c.name, zeros, e)
		}
		if event, e := bridge.Conflict(c.l); e != other || event != first {
			t.Errorf("%s: Conflict %d %d", c.name, event, e)
		}
	}
}

// TestP1_2CheckSlip: CheckSlip, and all functions that return its error.
func TestP1_2CheckSlip(t *testing.T) {
	conflict := withLog(func(l *api.Log) { l.Events[3].Shown = 1020 })
	for _, c := range []struct {
		name   string
		change func(s *api.Slip)
		want   api.Errno
	}{
		{"as it is", func(s *api.Slip) {}, api.OK},
		{"bare before full", func(s *api.Slip) { s.Full, s.Bare = s.Bare, s.Full }, api.OK},
		{"no full axle", func(s *api.Slip) { s.Full, s.Bare = nil, nil }, api.ErrFew},
		{"five full axles", func(s *api.Slip) { s.Full = []int{9, 9, 9, 9, 9} }, api.ErrMany},
		{"event 6", func(s *api.Slip) { s.Full = []int{1, 6, 0} }, api.ErrUnknown},
		{"event -1", func(s *api.Slip) { s.Full = []int{-1} }, api.ErrUnknown},
		{"empty in full", func(s *api.Slip) { s.Full = []int{0, 9} }, api.ErrKind},
		{"test in full", func(s *api.Slip) { s.Full = []int{1, 3} }, api.ErrKind},
		{"kind before order", func(s *api.Slip) { s.Full = []int{4, 3} }, api.ErrKind},
		{"order", func(s *api.Slip) { s.Full = []int{2, 1, 9} }, api.ErrOrder},
		{"twice in full", func(s *api.Slip) { s.Full = []int{1, 1} }, api.ErrOrder},
		{"full before bare", func(s *api.Slip) { s.Full, s.Bare = []int{2, 1}, nil }, api.ErrOrder},
		{"no bare axle", func(s *api.Slip) { s.Bare, s.FullSeat = nil, 3 }, api.ErrFew},
		{"five bare axles", func(s *api.Slip) { s.Bare = []int{1, 2, 4, 5, 6} }, api.ErrMany},
		{"bare event 6", func(s *api.Slip) { s.Bare = []int{6} }, api.ErrUnknown},
		{"bare test", func(s *api.Slip) { s.Bare = []int{3, 5} }, api.ErrKind},
		{"bare order", func(s *api.Slip) { s.Bare = []int{5, 4} }, api.ErrOrder},
		{"in both", func(s *api.Slip) { s.Bare, s.FullSeat = []int{2, 4}, 3 }, api.ErrRepeat},
		{"full seat 3", func(s *api.Slip) { s.FullSeat, s.Driver = 3, rng(1, 0) }, api.ErrKind},
		{"full seat -1", func(s *api.Slip) { s.FullSeat = -1 }, api.ErrKind},
		{"bare seat 3", func(s *api.Slip) { s.BareSeat, s.Driver = 3, rng(0, 201) }, api.ErrKind},
		{"bare seat -1", func(s *api.Slip) { s.BareSeat = -1 }, api.ErrKind},
		{"driver 0..200", func(s *api.Slip) { s.Driver = rng(0, 200) }, api.OK},
		{"driver 0..201", func(s *api.Slip) { s.Driver = rng(0, 201) }, api.ErrValue},
		{"driver -1..0", func(s *api.Slip) { s.Driver = rng(-1, 0) }, api.ErrValue},
		{"driver 9..8", func(s *api.Slip) { s.Driver = rng(9, 8) }, api.ErrOrder},
	} {
		s := withSlip(c.change)
		if e := bridge.CheckSlip(logL(), s); e != c.want {
			t.Errorf("%s: CheckSlip %d, not %d", c.name, e, c.want)
		}
		if e := bridge.CheckSlip(conflict, s); e != c.want {
			t.Errorf("%s: CheckSlip of a log that may not be %d, not %d", c.name, e, c.want)
		}
		if c.want == api.OK {
			continue
		}
		net, a := bridge.Net(conflict, s)
		paid, b := bridge.Paid(conflict, s, rng(1, 0))
		event, width, d := bridge.Best(conflict, s)
		if a != c.want || b != c.want || d != c.want || net != rng(0, 0) || paid != rng(0, 0) || event != 0 || width != 0 {
			t.Errorf("%s: Net %v %d, Paid %v %d, Best %d %d %d", c.name, net, a, paid, b, event, width, d)
		}
	}
}

// still returns a log with a zero of 0, in which a full and a bare axle were shown.
func still(step, full, bare int) api.Log {
	return api.Log{Step: step, Events: []api.Event{{Kind: api.EventLoad, Shown: full}, {Kind: api.EventLoad, Shown: bare}}}
}

// TestP1_2Net: Net, with all seats, and where loads are at their bounds.
func TestP1_2Net(t *testing.T) {
	seats := func(full, bare int) api.Slip {
		return withSlip(func(s *api.Slip) { s.FullSeat, s.BareSeat = full, bare })
	}
	both := api.Slip{Full: []int{0}, Bare: []int{1}}
	for _, c := range []struct {
		name string
		l    api.Log
		s    api.Slip
		want api.Range
	}{
		{"both empty", logL(), seats(0, 0), rng(9382, 9426)},
		{"full taken", logL(), seats(1, 0), rng(9292, 9356)},
		{"full unsure", logL(), seats(2, 0), rng(9292, 9426)},
		{"bare taken", logL(), seats(0, 1), rng(9452, 9516)},
		{"both taken", logL(), seats(1, 1), rng(9382, 9426)},
		{"taken and unsure", logL(), seats(1, 2), rng(9292, 9426)},
		{"bare unsure", logL(), seats(0, 2), rng(9382, 9516)},
		{"unsure and taken", logL(), seats(2, 1), rng(9382, 9516)},
		{"both unsure", logL(), seats(2, 2), rng(9292, 9516)},
		{"K", logK(), api.Slip{Full: []int{0}, Bare: []int{2}}, rng(60, 62)},
		{"below 0", still(1, 7, 9), both, rng(-2, -2)},
		{"even step", still(4, 40, 20), both, rng(17, 23)},
		{"odd step", still(5, 40, 20), both, rng(16, 24)},
		{"no load below 0", still(10, 50, 0), both, rng(41, 54)},
		{"no load above MaxLoad", still(10, 60000, 0), both, rng(59991, 60000)},
	} {
		if net, e := bridge.Net(c.l, c.s); net != c.want || e != api.OK {
			t.Errorf("%s: %v %d", c.name, net, e)
		}
	}
	conflict := withLog(func(l *api.Log) { l.Events[3].Shown = 1020 })
	if net, e := bridge.Net(conflict, slipS()); net != rng(0, 0) || e != api.ErrConflict {
		t.Error(net, e)
	}
}

// TestP1_2Paid: Paid, rounded down, never below 0, and its errors.
func TestP1_2Paid(t *testing.T) {
	conflict := withLog(func(l *api.Log) { l.Events[3].Shown = 1020 })
	both := api.Slip{Full: []int{0}, Bare: []int{1}}
	for _, c := range []struct {
		name string
		l    api.Log
		s    api.Slip
		dirt api.Range
		want api.Range
		e    api.Errno
	}{
		{"L", logL(), slipS(), rng(20, 30), rng(9100, 9237), api.OK},
		{"no dirt", logL(), slipS(), rng(0, 0), rng(9382, 9426), api.OK},
		{"all dirt", logL(), slipS(), rng(1000, 1000), rng(0, 0), api.OK},
		{"any dirt", logL(), slipS(), rng(0, 1000), rng(0, 9426), api.OK},
		{"rounded down", still(1, 1999, 0), both, rng(1, 1), rng(1997, 1997), api.OK},
		{"below 0", still(1, 7, 9), both, rng(0, 0), rng(0, 0), api.OK},
		{"perhaps below 0", still(10, 50, 50), both, rng(500, 500), rng(0, 4), api.OK},
		{"dirt -1", conflict, slipS(), rng(-1, 0), rng(0, 0), api.ErrValue},
		{"dirt 1001", conflict, slipS(), rng(0, 1001), rng(0, 0), api.ErrValue},
		{"dirt turned", conflict, slipS(), rng(2, 1), rng(0, 0), api.ErrOrder},
		{"conflict", conflict, slipS(), rng(1, 2), rng(0, 0), api.ErrConflict},
	} {
		if paid, e := bridge.Paid(c.l, c.s, c.dirt); paid != c.want || e != c.e {
			t.Errorf("%s: %v %d", c.name, paid, e)
		}
	}
}

// TestP1_3Best: the event that is best to be known, the first one of several, and with what a driver adds.
func TestP1_3Best(t *testing.T) {
	grow := api.Log{Step: 1, Events: []api.Event{
		{Kind: api.EventLoad, Shown: 50},
		{Kind: api.EventEmpty, Shown: 3, Change: rng(0, 5)},
		{Kind: api.EventLoad, Shown: 20, Change: rng(0, 4)},
	}}
	ends := api.Slip{Full: []int{0}, Bare: []int{2}}
	driven := api.Slip{Full: []int{0}, Bare: []int{2}, FullSeat: api.SeatUnsure, Driver: rng(70, 90)}
	for _, c := range []struct {
		name         string
		l            api.Log
		s            api.Slip
		event, width int
	}{
		{"K", logK(), ends, 0, 0},
		{"the last event", grow, ends, 2, 0},
		{"with a driver", grow, driven, 2, 90},
		{"several", still(2, 50, 20), api.Slip{Full: []int{0}, Bare: []int{1}}, 0, 2},
	} {
		if event, width, e := bridge.Best(c.l, c.s); event != c.event || width != c.width || e != api.OK {
			t.Errorf("%s: %d %d %d", c.name, event, width, e)
		}
	}
	conflict := withLog(func(l *api.Log) { l.Events[3].Shown = 1020 })
	if event, width, e := bridge.Best(conflict, slipS()); event != 0 || width != 0 || e != api.ErrConflict {
		t.Error(event, width, e)
	}
}

// TestRules: no argument is changed or kept, and no result shares memory (R2, R4).
func TestRules(t *testing.T) {
	l, s := logL(), slipS()
	first, _ := bridge.Zeros(l)
	second, _ := bridge.Zeros(l)
	first[0] = rng(77, 77)
	if second[0] == first[0] {
		t.Error("two results share memory")
	}
	bridge.Conflict(l)
	bridge.Net(l, s)
	bridge.Paid(l, s, rng(0, 9))
	bridge.Best(l, s)
	tape, _ := bridge.Write(l)
	if !slices.Equal(l.Events, logL().Events) || !slices.Equal(s.Full, slipS().Full) || !slices.Equal(s.Bare, slipS().Bare) {
		t.Error("an argument was changed")
	}
	read, _, _ := bridge.Read(tape)
	read.Events[0].Kind = 9
	if again, _, _ := bridge.Read(tape); again.Events[0].Kind != api.EventEmpty {
		t.Error("what is read shares memory")
	}
	l.Events = []api.Event{}
	if zeros, e := bridge.Zeros(l); len(zeros) != 0 || e != api.OK {
		t.Error("an empty slice of events", zeros, e)
	}
}

// TestP1: whatever the arguments are, each function comes back.
func TestP1(t *testing.T) {
	for _, n := range []int{math.MinInt, math.MinInt + 1, -1, 0, 1, 5, 60000, math.MaxInt} {
		odd := api.Event{Kind: n, Shown: n, Load: n, Change: rng(n, n)}
		logs := []api.Log{
			{Step: n, Zero: rng(n, n), Events: []api.Event{odd}},
			withLog(func(l *api.Log) { l.Step = n }),
			withLog(func(l *api.Log) { l.Zero = rng(n, math.MaxInt) }),
			withLog(func(l *api.Log) { l.Events[1].Shown = n }),
			withLog(func(l *api.Log) { l.Events[3].Load = n }),
			withLog(func(l *api.Log) { l.Events[3].Change = rng(math.MinInt, n) }),
			{Step: 1, Events: slices.Repeat([]api.Event{odd}, 9)},
			{}, logL(),
		}
		slips := []api.Slip{
			{}, slipS(),
			{Full: []int{n}, Bare: []int{n}, FullSeat: n, BareSeat: n, Driver: rng(n, n)},
			withSlip(func(s *api.Slip) { s.FullSeat = n }),
			withSlip(func(s *api.Slip) { s.Bare = []int{n} }),
			withSlip(func(s *api.Slip) { s.Driver = rng(n, math.MaxInt) }),
		}
		for _, l := range logs {
			bridge.Check(l)
			bridge.Zeros(l)
			bridge.Conflict(l)
			bridge.Write(l)
			for _, s := range slips {
				bridge.CheckSlip(l, s)
				bridge.Net(l, s)
				bridge.Paid(l, s, rng(n, n))
				bridge.Best(l, s)
			}
		}
	}
}
