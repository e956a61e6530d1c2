package gate_test

import (
	"math"
	"math/rand"
	"slices"
	"testing"

	"swarf/api"
	"swarf/gate"
)

const a, n, u = api.Always, api.Nowhere, api.Unsure

// siteErrors are sites with their first errors, in the chapter's order: each one has an error that comes later, too, where there is one.
var siteErrors = []struct {
	name   string
	change func(s *api.Site)
	want   api.Errno
}{
	{"as it is", func(s *api.Site) {}, api.OK},
	{"without doings", func(s *api.Site) { s.Doings = nil }, api.OK},
	{"no lorry", func(s *api.Site) { s.Lorries, s.Source = 0, rng(6, 5) }, api.ErrValue},
	{"-1 lorries", func(s *api.Site) { s.Lorries, s.Source = -1, rng(6, 5) }, api.ErrValue},
	{"6 lorries", func(s *api.Site) { s.Lorries = 6 }, api.OK},
	{"7 lorries", func(s *api.Site) { s.Lorries, s.Source = 7, rng(6, 5) }, api.ErrValue},
	{"no pile", func(s *api.Site) { s.Piles, s.Source = 0, rng(6, 5) }, api.ErrValue},
	{"5 piles", func(s *api.Site) { s.Piles = 5 }, api.OK},
	{"6 piles", func(s *api.Site) { s.Piles, s.Source = 6, rng(6, 5) }, api.ErrValue},
	{"1 lorry and 1 pile", func(s *api.Site) { s.Lorries, s.Piles, s.Doings = 1, 1, nil }, api.OK},
	{"Source from 0", func(s *api.Site) { s.Source, s.Gates = rng(0, 5), nil }, api.ErrValue},
	{"Source to 10001", func(s *api.Site) { s.Source, s.Gates = rng(5, 10001), nil }, api.ErrValue},
	{"Source 10001..5", func(s *api.Site) { s.Source = rng(10001, 5) }, api.ErrValue},
	{"Source 5..0", func(s *api.Site) { s.Source = rng(5, 0) }, api.ErrValue},
	{"Source 1..10000", func(s *api.Site) { s.Source = rng(1, 10000) }, api.OK},
	{"Source 6..5", func(s *api.Site) { s.Source, s.Most = rng(6, 5), -1 }, api.ErrOrder},
	{"Most -1", func(s *api.Site) { s.Most, s.Gates = -1, nil }, api.ErrValue},
	{"Most 4", func(s *api.Site) { s.Most, s.Gates = 4, nil }, api.ErrValue},
	{"Most 3 of 1 lorry", func(s *api.Site) { s.Most, s.Lorries, s.Doings = 3, 1, nil }, api.OK},
	{"no gate", func(s *api.Site) { s.Gates, s.Doings = nil, make([]api.Doing, 15) }, api.ErrFew},
	{"an empty list", func(s *api.Site) { s.Gates = []api.Gate{} }, api.ErrFew},
	{"3 gates", func(s *api.Site) { s.Gates = append(s.Gates, api.Gate{}, api.Gate{}) }, api.OK},
	{"4 gates", func(s *api.Site) { s.Gates = slices.Repeat([]api.Gate{{Wander: -1}}, 4) }, api.ErrMany},
	{"Back from -1", func(s *api.Site) { s.Gates[0].Back = rng(-1, 5) }, api.ErrValue},
	{"Back to 10001", func(s *api.Site) { s.Gates[0].Back = rng(5, 10001) }, api.ErrValue},
	{"Back 10001..5", func(s *api.Site) { s.Gates[0].Back = rng(10001, 5) }, api.ErrValue},
	{"Back 0..10000", func(s *api.Site) { s.Gates[0].Back = rng(0, 10000) }, api.OK},
	{"Back 6..5", func(s *api.Site) { s.Gates[0] = api.Gate{Back: rng(6, 5), Wander: -1} }, api.ErrOrder},
	{"Wander -1", func(s *api.Site) { s.Gates[0].Wander, s.Doings = -1, make([]api.Doing, 15) }, api.ErrValue},
	{"Wander 10001", func(s *api.Site) { s.Gates[0].Wander, s.Doings = 10001, make([]api.Doing, 15) }, api.ErrValue},
	{"Wander 10000", func(s *api.Site) { s.Gates[0].Wander = 10000 }, api.OK},
	{"the first gate first", func(s *api.Site) { s.Gates = []api.Gate{{Back: rng(6, 5)}, {Back: rng(-1, 5)}} }, api.ErrOrder},
	{"the second gate", func(s *api.Site) { s.Gates = append(s.Gates, api.Gate{Wander: -1}) }, api.ErrValue},
	{"14 doings", func(s *api.Site) { s.Doings = slices.Repeat([]api.Doing{clean(0)}, 14) }, api.OK},
	{"15 doings", func(s *api.Site) { s.Doings = make([]api.Doing, 15) }, api.ErrMany},
	{"kind 0", func(s *api.Site) { s.Doings[2] = api.Doing{A: 9, Count: -1} }, api.ErrKind},
	{"kind 6", func(s *api.Site) { s.Doings[2] = api.Doing{Kind: 6, A: 9, Count: -1} }, api.ErrKind},
	{"kind -1", func(s *api.Site) { s.Doings[7].Kind = -1 }, api.ErrKind},
	{"the first doing first", func(s *api.Site) { s.Doings[2].Count, s.Doings[3].Kind = -1, 0 }, api.ErrValue},
	{"pass at the gate -1", func(s *api.Site) { s.Doings[2] = pass(-1, 0, -1) }, api.ErrUnknown},
	{"pass at the gate 1", func(s *api.Site) { s.Doings[2] = pass(1, 0, -1) }, api.ErrUnknown},
	{"pass at the last gate", func(s *api.Site) { s.Gates, s.Doings[2] = make([]api.Gate, 3), pass(2, 0, 0) }, api.OK},
	{"pass of -1", func(s *api.Site) { s.Doings[2] = pass(0, -1, -1) }, api.ErrUnknown},
	{"pass of 3", func(s *api.Site) { s.Doings[2] = pass(0, 3, -1) }, api.ErrUnknown},
	{"Count -1", func(s *api.Site) { s.Doings[2].Count = -1 }, api.ErrValue},
	{"Count 20001", func(s *api.Site) { s.Doings[2].Count = 20001 }, api.ErrValue},
	{"Count 0 and 20000", func(s *api.Site) { s.Doings[1].Count, s.Doings[2].Count = 0, 20000 }, api.OK},
	{"tip of -1", func(s *api.Site) { s.Doings[5] = tip(-1, 0) }, api.ErrUnknown},
	{"tip of 3", func(s *api.Site) { s.Doings[5] = api.Doing{Kind: api.DoTip, A: 3, Count: 1} }, api.ErrUnknown},
	{"tip on -1", func(s *api.Site) { s.Doings[5] = tip(1, -1) }, api.ErrUnknown},
	{"tip on 2", func(s *api.Site) { s.Doings[5] = api.Doing{Kind: api.DoTip, A: 1, B: 2, Count: 1} }, api.ErrUnknown},
	{"tip on the last pile", func(s *api.Site) { s.Piles, s.Doings[5] = 5, tip(2, 4) }, api.OK},
	{"tip with Count", func(s *api.Site) { s.Doings[5].Count = 1 }, api.ErrForm},
	{"tip with Count -1", func(s *api.Site) { s.Doings[5].Count = -1 }, api.ErrForm},
	{"tip twice with Count", func(s *api.Site) { s.Doings[5] = api.Doing{Kind: api.DoTip, A: 1, Count: 1} }, api.ErrForm},
	{"tip twice", func(s *api.Site) { s.Doings[5], s.Doings[6] = tip(1, 1), move(0, 0) }, api.ErrRepeat},
	{"tip twice on one pile", func(s *api.Site) { s.Doings[5] = tip(0, 0) }, api.ErrRepeat},
	{"tip of the first one twice", func(s *api.Site) { s.Doings[7] = tip(0, 1) }, api.ErrRepeat},
	{"move from -1", func(s *api.Site) { s.Doings[6] = move(-1, 0) }, api.ErrUnknown},
	{"move from 2", func(s *api.Site) { s.Doings[6] = move(2, 2) }, api.ErrUnknown},
	{"move to 2", func(s *api.Site) { s.Doings[6] = api.Doing{Kind: api.DoMove, B: 2, Count: 1} }, api.ErrUnknown},
	{"move to -1", func(s *api.Site) { s.Doings[6] = move(0, -1) }, api.ErrUnknown},
	{"move to where it is", func(s *api.Site) { s.Doings[6], s.Doings[7].A = move(1, 1), 9 }, api.ErrForm},
	{"move with Count", func(s *api.Site) { s.Doings[6].Count, s.Doings[7].A = 1, 9 }, api.ErrForm},
	{"move back", func(s *api.Site) { s.Doings[6] = move(1, 0) }, api.OK},
	{"find in -1", func(s *api.Site) { s.Doings[7] = find(-1) }, api.ErrUnknown},
	{"find in 2", func(s *api.Site) { s.Doings[7] = api.Doing{Kind: api.DoFind, A: 2, B: 1, Count: 1} }, api.ErrUnknown},
	{"find with B", func(s *api.Site) { s.Doings[7] = api.Doing{Kind: api.DoFind, B: 1} }, api.ErrForm},
	{"find with B -1", func(s *api.Site) { s.Doings[7] = api.Doing{Kind: api.DoFind, A: 1, B: -1} }, api.ErrForm},
	{"find with Count", func(s *api.Site) { s.Doings[7] = api.Doing{Kind: api.DoFind, Count: 1} }, api.ErrForm},
	{"find", func(s *api.Site) { s.Doings[7] = find(1) }, api.OK},
	{"clean -1", func(s *api.Site) { s.Doings[7].A = -1 }, api.ErrUnknown},
	{"clean 2", func(s *api.Site) { s.Doings[7] = api.Doing{Kind: api.DoClean, A: 2, B: 1, Count: 1} }, api.ErrUnknown},
	{"clean with B", func(s *api.Site) { s.Doings[7].B = 1 }, api.ErrForm},
	{"clean with Count", func(s *api.Site) { s.Doings[7].Count = 20001 }, api.ErrForm},
}

// TestP3_1Check: Check, and all functions that return its error first.
func TestP3_1Check(t *testing.T) {
	for _, c := range siteErrors {
		s := withSite(c.change)
		if e := gate.Check(s); e != c.want {
			t.Errorf("%s: Check %d, not %d", c.name, e, c.want)
		}
		if c.want == api.OK {
			continue
		}
		lorries, e1 := gate.Lorries(s)
		piles, e2 := gate.Piles(s)
		suspects, e3 := gate.Suspects(s, 9)
		alarm, e4 := gate.Alarm(s)
		search, e5 := gate.Search(s)
		text, e6 := gate.Write(s)
		for i, e := range []api.Errno{e1, e2, e3, e4, e5, e6} {
			if e != c.want {
				t.Errorf("%s: function %d returns %d, not %d", c.name, i, e, c.want)
			}
		}
		if lorries != nil || piles != nil || suspects != nil || alarm != 0 || search != nil || text != "" {
			t.Errorf("%s: results beside an error", c.name)
		}
	}
}

// one returns a site of two lorries and one pile with a gate; a source adds 10..20 to what it counts.
func one(g api.Gate, doings ...api.Doing) api.Site {
	return api.Site{Lorries: 2, Piles: 1, Source: rng(10, 20), Most: 1, Gates: []api.Gate{g}, Doings: doings}
}

// TestP3_1Gates: what gates count tells which lorries carried a source, at ordinary counts and at the edges.
func TestP3_1Gates(t *testing.T) {
	still := api.Gate{Back: rng(50, 50)}
	wanders := api.Gate{Back: rng(50, 52), Wander: 3}
	for _, c := range []struct {
		name string
		s    api.Site
		want []int
	}{
		{"not counted", one(still), []int{u, u}},
		{"just the background", one(still, pass(0, 0, 50)), []int{n, u}},
		{"below it", one(still, pass(0, 0, 49)), nil},
		{"above it, no source", one(still, pass(0, 0, 51)), nil},
		{"too few for a source", one(still, pass(0, 0, 59)), nil},
		{"the least source", one(still, pass(0, 0, 60)), []int{a, n}},
		{"the greatest source", one(still, pass(0, 0, 70)), []int{a, n}},
		{"too many for a source", one(still, pass(0, 0, 71)), nil},
		{"the second lorry", one(still, pass(0, 1, 60)), []int{n, a}},
		{"the source counts otherwise each time", one(still, pass(0, 0, 60), pass(0, 0, 70)), []int{a, n}},
		{"once with it and once without", one(still, pass(0, 0, 60), pass(0, 0, 50)), nil},
		{"no wandering before the first pass", one(wanders, pass(0, 0, 49)), nil},
		{"at the end of Back", one(wanders, pass(0, 0, 52)), []int{n, u}},
		{"beyond Back", one(wanders, pass(0, 0, 53)), nil},
		{"the least of Back and source", one(wanders, pass(0, 0, 60)), []int{a, n}},
		{"the greatest of Back and source", one(wanders, pass(0, 0, 72)), []int{a, n}},
		{"more than both", one(wanders, pass(0, 0, 73)), nil},
		{"wandered down", one(wanders, pass(0, 0, 50), pass(0, 1, 47)), []int{n, n}},
		{"too far down", one(wanders, pass(0, 0, 50), pass(0, 1, 46)), nil},
		{"wandered up", one(wanders, pass(0, 0, 52), pass(0, 1, 55)), []int{n, n}},
		{"too far up", one(wanders, pass(0, 0, 52), pass(0, 1, 56)), nil},
		{"wandered up, and a source", one(wanders, pass(0, 0, 52), pass(0, 1, 75)), []int{n, a}},
		{"too far up for a source", one(wanders, pass(0, 0, 52), pass(0, 1, 76)), nil},
		{"wandered twice", one(wanders, pass(0, 0, 52), pass(0, 0, 55), pass(0, 0, 58)), []int{n, u}},
		{"wandered at a source, too", one(wanders, pass(0, 0, 72), pass(0, 1, 55)), []int{a, n}},
		{"a source narrows the background", one(wanders, pass(0, 0, 60), pass(0, 1, 54)), nil},
		{"from Back alone, not from 0", one(api.Gate{Back: rng(50, 50), Wander: 50}, pass(0, 0, 49)), nil},
		{"a range of backgrounds", one(api.Gate{Back: rng(40, 60), Wander: 1}, pass(0, 0, 60)), []int{u, u}},
		{"told by the next pass", one(api.Gate{Back: rng(40, 60), Wander: 1}, pass(0, 0, 60), pass(0, 1, 59)), []int{n, n}},
		{"told by the next pass, a source", one(api.Gate{Back: rng(40, 60), Wander: 1}, pass(0, 0, 60), pass(0, 1, 41)), []int{a, n}},
		{"told by another lorry, between", one(api.Gate{Back: rng(40, 60), Wander: 1}, pass(0, 0, 60), pass(0, 1, 50)), []int{a, n}},
		{"no background below 0", one(api.Gate{Back: rng(0, 1), Wander: 9}, pass(0, 0, 1), pass(0, 0, 9)), []int{n, u}},
		{"a source at the background 0", one(api.Gate{Back: rng(0, 1), Wander: 9}, pass(0, 1, 1), pass(0, 0, 10)), []int{u, n}},
		{"a source at a background below 0", one(api.Gate{Back: rng(0, 0), Wander: 9}, pass(0, 1, 0), pass(0, 0, 5)), []int{n, n}},
		{"no background above 10000", one(api.Gate{Back: rng(9999, 10000), Wander: 8}, pass(0, 1, 9999), pass(0, 0, 10001)), []int{a, n}},
		{"the background 10000", one(api.Gate{Back: rng(9999, 10000), Wander: 8}, pass(0, 1, 9999), pass(0, 0, 10000)), []int{n, n}},
		{"the most that is counted", one(api.Gate{Back: rng(9999, 10000), Wander: 8}, pass(0, 1, 9999), pass(0, 0, 10020)), []int{a, n}},
		{"more than there can be", one(api.Gate{Back: rng(9999, 10000), Wander: 8}, pass(0, 1, 9999), pass(0, 0, 10021)), nil},
		{"no source after the tip", one(still, pass(0, 0, 60), tip(0, 0), pass(0, 0, 50)), []int{a, n}},
		{"a source after the tip", one(still, pass(0, 0, 60), tip(0, 0), pass(0, 0, 60)), nil},
		{"a source after the tip of the other one", one(still, pass(0, 0, 60), tip(1, 0), pass(0, 0, 60)), []int{a, n}},
		{"only one source", one(still, pass(0, 0, 60), pass(0, 1, 60)), nil},
	} {
		want := api.OK
		if c.want == nil {
			want = api.ErrConflict
		}
		if lorries, e := gate.Lorries(c.s); !slices.Equal(lorries, c.want) || e != want {
			t.Errorf("%s: Lorries %v %d, not %v %d", c.name, lorries, e, c.want, want)
		}
	}
}

// TestP3_1ManyGates: each gate has a background of its own, and several lorries carry sources.
func TestP3_1ManyGates(t *testing.T) {
	gates := []api.Gate{{Back: rng(0, 0)}, {Back: rng(100, 100), Wander: 2}, {Back: rng(200, 230), Wander: 1}}
	for _, c := range []struct {
		name   string
		most   int
		doings []api.Doing
		want   []int
	}{
		{"each by its own", 1, []api.Doing{pass(0, 0, 0), pass(1, 1, 100), pass(2, 2, 209), pass(0, 1, 0), pass(1, 2, 98), pass(2, 0, 208)}, []int{n, n, n, u, u, u}},
		{"the second one may tell what the first one does not", 1, []api.Doing{pass(2, 0, 220), pass(1, 0, 115)}, []int{a, n, n, n, n, n}},
		{"and the other way", 1, []api.Doing{pass(2, 0, 220), pass(1, 0, 100)}, []int{n, u, u, u, u, u}},
		{"three sources", 3, []api.Doing{pass(0, 5, 10), pass(0, 3, 20), pass(1, 4, 120)}, []int{n, n, n, a, a, a}},
		{"at most three", 3, []api.Doing{pass(0, 5, 10), pass(0, 3, 20)}, []int{u, u, u, a, u, a}},
		{"at most two", 2, []api.Doing{pass(0, 5, 10), pass(0, 3, 20)}, []int{n, n, n, a, n, a}},
		{"more than may be", 2, []api.Doing{pass(0, 5, 10), pass(0, 3, 20), pass(0, 1, 15)}, nil},
		{"none may be", 0, []api.Doing{pass(0, 5, 0)}, []int{n, n, n, n, n, n}},
		{"none may be, but there is one", 0, []api.Doing{pass(0, 5, 10)}, nil},
	} {
		s := api.Site{Lorries: 6, Piles: 5, Source: rng(10, 20), Most: c.most, Gates: gates, Doings: c.doings}
		if lorries, e := gate.Lorries(s); !slices.Equal(lorries, c.want) || (e == api.OK) != (c.want != nil) {
			t.Errorf("%s: Lorries %v %d, not %v", c.name, lorries, e, c.want)
		}
	}
}

// anybody returns a site of four lorries and three piles at which nothing was counted.
func anybody(most int, doings ...api.Doing) api.Site {
	return api.Site{Lorries: 4, Piles: 3, Source: rng(10, 20), Most: most, Gates: []api.Gate{{}}, Doings: doings}
}

// TestP3_1Piles: where sources are after tips, moves and measurements.
func TestP3_1Piles(t *testing.T) {
	for _, c := range []struct {
		name           string
		s              api.Site
		lorries, piles []int
	}{
		{"A", siteA(), []int{n, a, n}, []int{n, a}},
		{"A without the doing 7", withSite(func(s *api.Site) { s.Doings = s.Doings[:7] }), []int{n, a, n}, []int{u, u}},
		{"A with 105 counted", withSite(func(s *api.Site) { s.Doings[1].Count = 105 }), []int{n, n, n}, []int{n, n}},
		{"A with 106 counted", withSite(func(s *api.Site) { s.Doings[1].Count = 106 }), nil, nil},
		{"A with a wide background", withSite(func(s *api.Site) { s.Gates[0] = api.Gate{Back: rng(60, 110), Wander: 50} }), []int{n, u, n}, []int{n, u}},
		{"nothing was done", anybody(1), []int{u, u, u, u}, []int{n, n, n}},
		{"a tip", anybody(1, tip(2, 1)), []int{u, u, u, u}, []int{n, u, n}},
		{"found", anybody(1, tip(2, 1), find(1)), []int{n, n, a, n}, []int{n, a, n}},
		{"found where nothing was tipped", anybody(1, tip(2, 1), find(0)), nil, nil},
		{"found before the tip", anybody(1, find(1), tip(2, 1)), nil, nil},
		{"clean before the tip", anybody(1, clean(1), tip(2, 1)), []int{u, u, u, u}, []int{n, u, n}},
		{"clean after the tip", anybody(1, tip(2, 1), clean(1)), []int{u, u, n, u}, []int{n, n, n}},
		{"found and clean", anybody(1, tip(2, 1), find(1), clean(1)), nil, nil},
		{"found, moved, and clean", anybody(1, tip(2, 1), find(1), move(1, 0), clean(1)), []int{n, n, a, n}, []int{a, n, n}},
		{"found, moved, and found", anybody(1, tip(2, 1), find(1), move(1, 0), find(1)), []int{n, n, a, n}, []int{n, a, n}},
		{"found, perhaps moved", anybody(1, tip(2, 1), find(1), move(1, 0)), []int{n, n, a, n}, []int{u, u, n}},
		{"moved before the tip", anybody(1, move(1, 0), tip(2, 1), find(1)), []int{n, n, a, n}, []int{n, a, n}},
		{"moved and moved back", anybody(1, tip(2, 1), find(1), move(1, 0), move(0, 1)), []int{n, n, a, n}, []int{u, u, n}},
		{"of two one stays", anybody(2, tip(0, 0), tip(1, 0), move(0, 1), find(0), find(1)), []int{a, a, n, n}, []int{a, a, n}},
		{"of three each goes by itself", anybody(3, tip(0, 0), tip(1, 0), tip(2, 0), move(0, 1), move(0, 2), find(0), find(1), find(2)), []int{a, a, a, n}, []int{a, a, a}},
		{"all of three may go", anybody(3, tip(0, 0), tip(1, 0), tip(2, 0), find(0), move(0, 1), clean(0)), []int{u, u, u, u}, []int{n, a, n}},
		{"two found apart are two", anybody(1, tip(0, 0), tip(1, 1), find(0), find(1)), nil, nil},
		{"one found twice may be one", anybody(1, tip(0, 0), find(0), move(0, 1), find(1)), []int{a, n, n, n}, []int{n, a, n}},
		{"a lorry that was not tipped may carry one", anybody(3, tip(0, 0), tip(1, 1), find(0), find(1)), []int{a, a, u, u}, []int{a, a, n}},
		{"no more than that may be", anybody(2, tip(0, 0), tip(1, 1), find(0), find(1)), []int{a, a, n, n}, []int{a, a, n}},
	} {
		want := api.OK
		if c.lorries == nil {
			want = api.ErrConflict
		}
		lorries, e := gate.Lorries(c.s)
		piles, f := gate.Piles(c.s)
		if !slices.Equal(lorries, c.lorries) || !slices.Equal(piles, c.piles) || e != want || f != want {
			t.Errorf("%s: %v %d, %v %d, not %v, %v", c.name, lorries, e, piles, f, c.lorries, c.piles)
		}
	}
}

// TestP3_2Suspects: whose source may be in a pile, and all errors in their order.
func TestP3_2Suspects(t *testing.T) {
	conflict := withSite(func(s *api.Site) { s.Doings[1].Count = 106 })
	for _, c := range []struct {
		name string
		s    api.Site
		pile int
		want []int
		e    api.Errno
	}{
		{"A, 0", siteA(), 0, nil, api.OK},
		{"A, 1", siteA(), 1, []int{1}, api.OK},
		{"A without the doing 7, 0", withSite(func(s *api.Site) { s.Doings = s.Doings[:7] }), 0, []int{1}, api.OK},
		{"of two one", anybody(1, tip(3, 0), tip(1, 0), tip(2, 1), find(0)), 0, []int{1, 3}, api.OK},
		{"only it can be", anybody(1, tip(3, 0), tip(1, 0), tip(2, 1), find(0)), 1, nil, api.OK},
		{"two may be", anybody(2, tip(3, 0), tip(1, 0), tip(2, 1), find(0)), 1, []int{2}, api.OK},
		{"on two ways", anybody(1, tip(0, 0), tip(1, 1), move(1, 0), tip(2, 1), move(0, 2)), 2, []int{0, 1}, api.OK},
		{"where it came from", anybody(1, tip(0, 0), move(0, 1), tip(2, 0)), 0, []int{0, 2}, api.OK},
		{"found after the move", anybody(1, tip(0, 0), tip(1, 0), move(0, 1), tip(2, 0), find(0)), 0, []int{0, 1, 2}, api.OK},
		{"found, but moved", anybody(1, tip(0, 0), find(0), move(0, 1)), 1, []int{0}, api.OK},
		{"nothing was tipped", anybody(3), 2, nil, api.OK},
		{"pile -1", conflict, -1, nil, api.ErrUnknown},
		{"pile 2", conflict, 2, nil, api.ErrUnknown},
		{"a pile that could be", siteA(), 4, nil, api.ErrUnknown},
		{"not possible", conflict, 1, nil, api.ErrConflict},
	} {
		if list, e := gate.Suspects(c.s, c.pile); !slices.Equal(list, c.want) || e != c.e {
			t.Errorf("%s: %v %d, not %v %d", c.name, list, e, c.want, c.e)
		}
	}
}

// TestP3_2Alarm: the first doing by which a source is sure.
func TestP3_2Alarm(t *testing.T) {
	still := api.Gate{Back: rng(50, 50), Wander: 1}
	for _, c := range []struct {
		name string
		s    api.Site
		want int
		e    api.Errno
	}{
		{"A", siteA(), 1, api.OK},
		{"A with 105 counted", withSite(func(s *api.Site) { s.Doings[1].Count = 105 }), 0, api.ErrUnknown},
		{"A with 106 counted", withSite(func(s *api.Site) { s.Doings[1].Count = 106 }), 1, api.OK},
		{"A with Most 0", withSite(func(s *api.Site) { s.Most = 0 }), 1, api.OK},
		{"nothing was done", anybody(1), 0, api.ErrUnknown},
		{"the first doing", one(still, pass(0, 0, 60), pass(0, 0, 70)), 0, api.OK},
		{"the last doing", one(still, pass(0, 0, 50), pass(0, 1, 51), pass(0, 0, 49)), 2, api.OK},
		{"as the background cannot fall so far", one(still, pass(0, 0, 50), pass(0, 1, 48), pass(0, 0, 60)), 1, api.OK},
		{"all clean", anybody(3, tip(0, 0), move(0, 1), clean(0), clean(1)), 0, api.ErrUnknown},
		{"a find", anybody(3, tip(0, 0), move(0, 1), clean(0), find(1)), 3, api.OK},
		{"two finds", anybody(3, tip(0, 0), find(0), move(0, 1), find(1)), 1, api.OK},
		{"a find that cannot be", anybody(3, find(2), tip(0, 0)), 0, api.OK},
		{"found and clean", anybody(3, tip(0, 0), find(0), clean(0)), 1, api.OK},
	} {
		if alarm, e := gate.Alarm(c.s); alarm != c.want || e != c.e {
			t.Errorf("%s: %d %d, not %d %d", c.name, alarm, e, c.want, c.e)
		}
	}
}

// TestP3_3Search: the fewest piles that have to be clean, and the first ones of as many.
func TestP3_3Search(t *testing.T) {
	wide := func(most int, doings ...api.Doing) api.Site {
		s := anybody(most, doings...)
		s.Lorries, s.Piles = 6, 5
		return s
	}
	for _, c := range []struct {
		name string
		s    api.Site
		want []int
		e    api.Errno
	}{
		{"A", siteA(), []int{1}, api.OK},
		{"A without the doing 7", withSite(func(s *api.Site) { s.Doings = s.Doings[:7] }), []int{0, 1}, api.OK},
		{"A with 105 counted", withSite(func(s *api.Site) { s.Doings[1].Count = 105 }), nil, api.OK},
		{"A with 106 counted", withSite(func(s *api.Site) { s.Doings[1].Count = 106 }), nil, api.ErrConflict},
		{"nothing was tipped", anybody(3), nil, api.OK},
		{"one tip", anybody(3, tip(0, 2)), []int{2}, api.OK},
		{"clean already", anybody(3, tip(0, 2), clean(2)), nil, api.OK},
		{"one source, two tips", anybody(1, tip(0, 2), tip(1, 0)), []int{0, 2}, api.OK},
		{"both are there, the first one is enough", anybody(2, tip(0, 1), tip(1, 2), find(1), find(2)), []int{1}, api.OK},
		{"only one of them is surely there", anybody(2, tip(0, 1), tip(1, 2), find(2)), []int{2}, api.OK},
		{"all five piles", wide(1, tip(0, 4), tip(1, 3), tip(2, 2), tip(3, 1), tip(4, 0)), []int{0, 1, 2, 3, 4}, api.OK},
		{"three of five, the first two surely", wide(3, tip(0, 0), tip(1, 1), tip(2, 2), tip(3, 3), tip(4, 4), find(0), find(1)), []int{0}, api.OK},
		{"of two either one", wide(2, tip(0, 3), tip(1, 4), move(3, 2), find(4), move(4, 1)), []int{1, 4}, api.OK},
		{"two finds on the way", wide(2, tip(0, 3), tip(1, 4), find(3), find(4), move(3, 0), move(4, 1)), []int{0, 3}, api.OK},
	} {
		if list, e := gate.Search(c.s); !slices.Equal(list, c.want) || e != c.e {
			t.Errorf("%s: %v %d, not %v %d", c.name, list, e, c.want, c.e)
		}
	}
}

// TestRules: no argument is changed or kept, and no result shares memory (R2, R4).
func TestRules(t *testing.T) {
	s := withSite(func(s *api.Site) { s.Doings = append(make([]api.Doing, 0, 20), s.Doings...) })
	kept := copySite(s)
	results := func() [][]int {
		return [][]int{first(gate.Lorries(s)), first(gate.Piles(s)), first(gate.Suspects(s, 1)), first(gate.Search(s))}
	}
	before := results()
	for i, list := range before {
		want := slices.Clone(list)
		list[0] = 99
		if now := results()[i]; !slices.Equal(now, want) {
			t.Errorf("function %d: two results share memory: %v, not %v", i, now, want)
		}
	}
	gate.Alarm(s)
	text, _ := gate.Write(s)
	if !sameSite(s, kept) || !slices.Equal(s.Doings[:20], append(kept.Doings, make([]api.Doing, 12)...)) {
		t.Error("an argument was changed")
	}
	read, _, _ := gate.Read(text)
	read.Gates[0].Wander, read.Doings[0].Count = 99, 99
	if other, _, _ := gate.Read(text); !sameSite(other, kept) || !sameSite(s, kept) {
		t.Error("a result shares memory")
	}
}

// wild returns a random number, often one at a bound or far beyond.
func wild(r *rand.Rand) int {
	list := []int{0, 0, 0, 1, 1, 1, 2, 2, 3, -1, 4, 5, 6, 7, 63, 64, 65, 9999, 10000, 10001, 20000, 20001, math.MaxInt, math.MinInt, math.MaxInt32, math.MinInt32}
	return list[r.Intn(len(list))]
}

// TestP1: no call panics, whatever the arguments are.
func TestP1(t *testing.T) {
	r := rand.New(rand.NewSource(1))
	for range 20000 {
		s := siteA()
		if r.Intn(2) == 0 {
			s.Lorries, s.Piles, s.Most = wild(r), wild(r), wild(r)
		}
		if r.Intn(4) == 0 {
			s.Source = rng(wild(r), wild(r))
		}
		for range r.Intn(4) * r.Intn(2) {
			s.Gates = append(s.Gates, api.Gate{Back: rng(wild(r), wild(r)), Wander: wild(r)})
		}
		for range r.Intn(3) {
			doing := api.Doing{Kind: r.Intn(6), A: wild(r), B: wild(r), Count: wild(r) * r.Intn(2)}
			s.Doings[r.Intn(len(s.Doings))] = doing
		}
		gate.Check(s)
		gate.Lorries(s)
		gate.Piles(s)
		gate.Suspects(s, wild(r))
		gate.Alarm(s)
		gate.Search(s)
		gate.Write(s)
	}
}
