package papers_test

import (
	"math"
	"math/rand"
	"slices"
	"strings"
	"testing"

	"swarf/api"
	"swarf/papers"
)

// zoneErrors are zones with their first errors, in the chapter's order: each one has an error that comes later, too, where there is one.
var zoneErrors = []struct {
	name   string
	change func(z *api.Zone)
	want   api.Errno
}{
	{"as it is", func(z *api.Zone) {}, api.OK},
	{"without lands", func(z *api.Zone) { z.Lands = 0 }, api.ErrFew},
	{"Lands -1", func(z *api.Zone) { z.Lands = -1 }, api.ErrFew},
	{"1 land", func(z *api.Zone) { z.Lands, z.Roads, z.Papers = 1, nil, nil }, api.OK},
	{"6 lands", func(z *api.Zone) { z.Lands = 6 }, api.OK},
	{"7 lands", func(z *api.Zone) { z.Lands, z.Roads = 7, []api.Road{{A: -1}} }, api.ErrMany},
	{"no roads", func(z *api.Zone) { z.Roads = nil }, api.OK},
	{"12 roads", func(z *api.Zone) {
		z.Lands, z.Roads = 6, nil
		for a := range 6 {
			for b := range a {
				z.Roads = append(z.Roads, road(a, b, 30))
			}
		}
		z.Roads = z.Roads[:12]
	}, api.OK},
	{"13 roads", func(z *api.Zone) { z.Roads = slices.Repeat([]api.Road{{A: -1}}, 13) }, api.ErrMany},
	{"the first road first", func(z *api.Zone) { z.Roads = []api.Road{road(0, 1, 31), road(4, 0, 1)} }, api.ErrValue},
	{"A -1", func(z *api.Zone) { z.Roads[1] = road(-1, -1, -1) }, api.ErrUnknown},
	{"A 4", func(z *api.Zone) { z.Roads[1] = road(4, 4, -1) }, api.ErrUnknown},
	{"B -1", func(z *api.Zone) { z.Roads[1] = road(1, -1, -1) }, api.ErrUnknown},
	{"B 4", func(z *api.Zone) { z.Roads[1], z.Papers = road(1, 4, 31), make([]api.Paper, 13) }, api.ErrUnknown},
	{"a road to the same land", func(z *api.Zone) { z.Roads[1] = road(2, 2, 31) }, api.ErrForm},
	{"Days -1", func(z *api.Zone) { z.Roads[1] = road(0, 1, -1) }, api.ErrValue},
	{"Days 0", func(z *api.Zone) { z.Roads[1].Days = 0 }, api.OK},
	{"Days 30", func(z *api.Zone) { z.Roads[1].Days = 30 }, api.OK},
	{"Days 31", func(z *api.Zone) { z.Roads[1] = road(1, 0, 31) }, api.ErrValue},
	{"a road 0 1 again", func(z *api.Zone) { z.Roads, z.Papers = append(z.Roads, road(0, 1, 9)), make([]api.Paper, 13) }, api.ErrRepeat},
	{"a road 2 3", func(z *api.Zone) { z.Roads[2], z.Papers = road(2, 1, 9), make([]api.Paper, 13) }, api.ErrRepeat},
	{"a road 1 3", func(z *api.Zone) { z.Roads = append(z.Roads, road(1, 3, 1)) }, api.OK},
	{"no papers", func(z *api.Zone) { z.Papers = nil }, api.OK},
	{"12 papers", func(z *api.Zone) { z.Papers = make([]api.Paper, 12) }, api.OK},
	{"13 papers", func(z *api.Zone) { z.Papers = slices.Repeat([]api.Paper{paper(-1, 0, 0, 0, 0)}, 13) }, api.ErrMany},
	{"the first paper first", func(z *api.Zone) { z.Papers[3].Kilos, z.Papers[4].Land = -1, 4 }, api.ErrValue},
	{"Land -1", func(z *api.Zone) { z.Papers[4] = paper(-1, -1, 9, 8, -1) }, api.ErrUnknown},
	{"Land 4", func(z *api.Zone) { z.Papers[4] = paper(4, 10, 9, 8, -1) }, api.ErrUnknown},
	{"Code -1", func(z *api.Zone) { z.Papers[4] = paper(3, -1, 9, 8, -1) }, api.ErrValue},
	{"Code 0", func(z *api.Zone) { z.Papers[4].Code = 0 }, api.OK},
	{"Code 9", func(z *api.Zone) { z.Papers[4].Code = 9 }, api.OK},
	{"Code 10", func(z *api.Zone) { z.Papers[4] = paper(3, 10, 9, 8, -1) }, api.ErrValue},
	{"First -1", func(z *api.Zone) { z.Papers[4].First = -1 }, api.ErrValue},
	{"First 2001", func(z *api.Zone) { z.Papers[4].First = 2001 }, api.ErrValue},
	{"Last -1", func(z *api.Zone) { z.Papers[4].Last = -1 }, api.ErrValue},
	{"Last 2000", func(z *api.Zone) { z.Papers[4].Last = 2000 }, api.OK},
	{"Last 2001", func(z *api.Zone) { z.Papers[4].Last = 2001 }, api.ErrValue},
	{"First 9, Last 8", func(z *api.Zone) { z.Papers[4] = paper(3, 5, 9, 8, -1) }, api.ErrOrder},
	{"First 9, Last 9", func(z *api.Zone) { z.Papers[4] = paper(3, 5, 9, 9, 0) }, api.OK},
	{"Kilos -1", func(z *api.Zone) { z.Papers[0].Kilos = -1 }, api.ErrValue},
	{"Kilos 0", func(z *api.Zone) { z.Papers[0].Kilos = 0 }, api.OK},
	{"Kilos 100000", func(z *api.Zone) { z.Papers[0].Kilos = 100000 }, api.OK},
	{"Kilos 100001", func(z *api.Zone) { z.Papers[0].Kilos = 100001 }, api.ErrValue},
	{"the same paper again", func(z *api.Zone) { z.Papers = append(z.Papers, z.Papers[0]) }, api.OK},
	{"numbers far above", func(z *api.Zone) { z.Papers[4] = paper(3, 5, math.MaxInt, math.MaxInt, math.MaxInt) }, api.ErrValue},
	{"numbers far below", func(z *api.Zone) { z.Roads[0] = road(math.MinInt, math.MaxInt, math.MinInt) }, api.ErrUnknown},
}

// TestP9_1Check: Check, and all functions that return its error first.
func TestP9_1Check(t *testing.T) {
	bad := api.Trip{From: -1, To: 9, Code: -1, Day: -1, Kilos: -1}
	for _, c := range zoneErrors {
		z := withZ(c.change)
		if e := papers.Check(z); e != c.want {
			t.Errorf("%s: Check %d, not %d", c.name, e, c.want)
		}
		if c.want == api.OK {
			continue
		}
		e1 := papers.CheckTrip(z, bad)
		way, list, day, e2 := papers.Complete(z, bad)
		soonest, e3 := papers.Soonest(z, bad)
		most, e4 := papers.Most(z, bad)
		missing, e5 := papers.Missing(z, bad)
		left, replies, e6 := papers.Book(z, make([]api.Trip, 21))
		text, e7 := papers.Folder(z)
		for i, e := range []api.Errno{e1, e2, e3, e4, e5, e6, e7} {
			if e != c.want {
				t.Errorf("%s: function %d returns %d, not %d", c.name, i+1, e, c.want)
			}
		}
		if way != nil || list != nil || day != 0 || soonest != 0 || most != 0 || missing != nil || left != nil || replies != nil || text != "" {
			t.Errorf("%s: results beside an error", c.name)
		}
	}
}

// TestP9_1CheckTrip: CheckTrip, and all functions that return its error ahead of that of a trip without a way.
func TestP9_1CheckTrip(t *testing.T) {
	bare := withZ(func(z *api.Zone) { z.Roads = nil })
	for _, c := range []struct {
		name string
		t    api.Trip
		want api.Errno
	}{
		{"t", tripT(5, 4000), api.OK},
		{"From -1", api.Trip{From: -1, To: 2, Code: 10}, api.ErrUnknown},
		{"From 4", api.Trip{From: 4, To: 2, Code: 10}, api.ErrUnknown},
		{"To -1", api.Trip{To: -1, Code: 10}, api.ErrUnknown},
		{"To 4", api.Trip{To: 4, Code: 10}, api.ErrUnknown},
		{"From 3", api.Trip{From: 3, To: 2, Kilos: 1}, api.OK},
		{"to the same land", api.Trip{From: 2, To: 2, Kilos: 1}, api.OK},
		{"Code -1", api.Trip{To: 2, Code: -1, Kilos: 1}, api.ErrValue},
		{"Code 9", api.Trip{To: 2, Code: 9, Kilos: 1}, api.OK},
		{"Code 10", api.Trip{To: 2, Code: 10, Kilos: 1}, api.ErrValue},
		{"Day -1", tripT(-1, 1), api.ErrValue},
		{"Day 0", tripT(0, 1), api.OK},
		{"Day 2000", tripT(2000, 1), api.OK},
		{"Day 2001", tripT(2001, 1), api.ErrValue},
		{"Kilos -1", tripT(5, -1), api.ErrValue},
		{"Kilos 0", tripT(5, 0), api.ErrValue},
		{"Kilos 1", tripT(5, 1), api.OK},
		{"Kilos 100000", tripT(5, 100000), api.OK},
		{"Kilos 100001", tripT(5, 100001), api.ErrValue},
		{"numbers far away", api.Trip{To: 2, Code: math.MinInt, Day: math.MaxInt, Kilos: math.MinInt}, api.ErrValue},
		{"lands far away", api.Trip{From: math.MinInt, To: math.MaxInt}, api.ErrUnknown},
	} {
		if e := papers.CheckTrip(zoneZ(), c.t); e != c.want {
			t.Errorf("%s: CheckTrip %d, not %d", c.name, e, c.want)
		}
		if c.want == api.OK {
			continue
		}
		way, list, day, e1 := papers.Complete(bare, c.t)
		soonest, e2 := papers.Soonest(bare, c.t)
		most, e3 := papers.Most(bare, c.t)
		missing, e4 := papers.Missing(bare, c.t)
		if e1 != c.want || e2 != c.want || e3 != c.want || e4 != c.want {
			t.Errorf("%s: %d %d %d %d, not %d", c.name, e1, e2, e3, e4, c.want)
		}
		if way != nil || list != nil || day != 0 || soonest != 0 || most != 0 || missing != nil {
			t.Errorf("%s: results beside an error", c.name)
		}
	}
}

// TestP9_1NoWay: trips from which no road leads to their end.
func TestP9_1NoWay(t *testing.T) {
	for _, c := range []struct {
		name string
		z    api.Zone
		t    api.Trip
	}{
		{"without roads", withZ(func(z *api.Zone) { z.Roads = nil }), tripT(5, 4000)},
		{"a road from the start alone", withZ(func(z *api.Zone) { z.Roads = z.Roads[:1] }), tripT(5, 4000)},
		{"a road to the end alone", withZ(func(z *api.Zone) { z.Roads = z.Roads[1:2] }), tripT(5, 4000)},
		{"a round without the end", withZ(func(z *api.Zone) { z.Roads = []api.Road{road(0, 1, 1), road(1, 3, 1), road(3, 0, 1)} }), tripT(5, 4000)},
		{"far too much", withZ(func(z *api.Zone) { z.Lands, z.Papers = 6, nil }), api.Trip{To: 5, Day: 2000, Kilos: 100000}},
	} {
		way, list, day, e1 := papers.Complete(c.z, c.t)
		soonest, e2 := papers.Soonest(c.z, c.t)
		most, e3 := papers.Most(c.z, c.t)
		missing, e4 := papers.Missing(c.z, c.t)
		if e1 != api.ErrState || e2 != api.ErrState || e3 != api.ErrState || e4 != api.ErrState {
			t.Errorf("%s: %d %d %d %d", c.name, e1, e2, e3, e4)
		}
		if way != nil || list != nil || day != 0 || soonest != 0 || most != 0 || missing != nil {
			t.Errorf("%s: results beside an error", c.name)
		}
	}
}

// alone returns a zone of one land, with papers of so many kilograms.
func alone(kilos ...int) api.Zone {
	z := api.Zone{Lands: 1}
	for _, n := range kilos {
		z.Papers = append(z.Papers, paper(0, 0, 3, 9, n))
	}
	return z
}

// square returns a zone with ways 0 1 3 and 0 2 3 of so many days, and a paper of 5 kilograms of each land.
func square(by1, by2 int, more ...api.Paper) api.Zone {
	z := api.Zone{Lands: 4, Roads: []api.Road{road(3, 2, 1), road(0, 2, by2-1), road(1, 0, by1-1), road(1, 3, 1)}}
	for land := range 4 {
		z.Papers = append(z.Papers, paper(land, 0, 0, 99, 5))
	}
	return with(z, more...)
}

// line returns a zone of six lands, one behind the other, with two papers of each one.
func line() api.Zone {
	z := api.Zone{Lands: 6}
	for land := range 6 {
		if land > 0 {
			z.Roads = append(z.Roads, road(land, land-1, 30))
		}
		z.Papers = append(z.Papers, paper(land, 9, 30*land, 30*land, 50000), paper(land, 9, 30*land, 2000, 50000))
	}
	return z
}

// TestP9_1Complete: best ways, their papers, and the days on which a trip is at its end.
func TestP9_1Complete(t *testing.T) {
	all := []int{0, 1, 2, 3, 4, 5, 6, 7, 8, 9, 10, 11}
	through := api.Trip{To: 3, Kilos: 5}
	for _, c := range []struct {
		name        string
		z           api.Zone
		t           api.Trip
		way, papers []int
		day         int
		e           api.Errno
	}{
		{"t on 5", zoneZ(), tripT(5, 4000), []int{0, 1, 2}, []int{0, 1, 2, 3}, 8, api.OK},
		{"t on 25", zoneZ(), tripT(25, 4000), []int{0, 3, 2}, []int{0, 3, 4}, 27, api.OK},
		{"t on 12", zoneZ(), tripT(12, 4000), nil, nil, 0, api.ErrPaper},
		{"just enough in 0", zoneZ(), tripT(5, 5000), []int{0, 1, 2}, []int{0, 1, 2, 3}, 8, api.OK},
		{"a kilogram too much in 0", zoneZ(), tripT(5, 5001), nil, nil, 0, api.ErrPaper},
		{"the last day of a paper", zoneZ(), tripT(9, 3000), []int{0, 1, 2}, []int{0, 1, 3}, 12, api.OK},
		{"the day after", zoneZ(), tripT(10, 2501), nil, nil, 0, api.ErrPaper},
		{"the first day of a paper", zoneZ(), tripT(19, 1), []int{0, 3, 2}, []int{0, 3, 4}, 21, api.OK},
		{"the day before", zoneZ(), tripT(18, 1), []int{0, 1, 2}, []int{0, 2, 3}, 21, api.OK},
		{"the first one of papers as good", zoneZ(), tripT(5, 2500), []int{0, 1, 2}, []int{0, 1, 3}, 8, api.OK},
		{"another code", zoneZ(), api.Trip{To: 2, Code: 4, Day: 5, Kilos: 1}, nil, nil, 0, api.ErrPaper},
		{"papers of another code beside", with(alone(4), paper(0, 1, 3, 9, 9)), api.Trip{Day: 3, Kilos: 5}, nil, nil, 0, api.ErrPaper},
		{"papers of another land beside", square(2, 2, paper(1, 0, 0, 99, 9)), api.Trip{To: 3, Kilos: 6}, nil, nil, 0, api.ErrPaper},
		{"back", zoneZ(), api.Trip{From: 2, To: 0, Code: 5, Day: 19, Kilos: 1}, []int{2, 3, 0}, []int{0, 3, 4}, 21, api.OK},
		{"in one land", zoneZ(), api.Trip{From: 3, To: 3, Code: 5, Day: 20, Kilos: 4000}, []int{3}, []int{4}, 20, api.OK},
		{"in one land, too much", zoneZ(), api.Trip{From: 3, To: 3, Code: 5, Day: 20, Kilos: 4001}, nil, nil, 0, api.ErrPaper},
		{"one paper of three", alone(3, 5, 4), api.Trip{Day: 3, Kilos: 4}, []int{0}, []int{1}, 3, api.OK},
		{"two papers of three", alone(3, 5, 4), api.Trip{Day: 9, Kilos: 7}, []int{0}, []int{0, 1}, 9, api.OK},
		{"not the first two papers", alone(3, 5, 4), api.Trip{Day: 9, Kilos: 9}, []int{0}, []int{1, 2}, 9, api.OK},
		{"the first and the last paper", alone(5, 3, 4), api.Trip{Day: 9, Kilos: 9}, []int{0}, []int{0, 2}, 9, api.OK},
		{"all papers", alone(3, 5, 4), api.Trip{Day: 9, Kilos: 12}, []int{0}, []int{0, 1, 2}, 9, api.OK},
		{"more than all papers", alone(3, 5, 4), api.Trip{Day: 9, Kilos: 13}, nil, nil, 0, api.ErrPaper},
		{"an empty paper is not needed", alone(0, 5, 0), api.Trip{Day: 9, Kilos: 5}, []int{0}, []int{1}, 9, api.OK},
		{"one paper that comes last", alone(2, 2, 2, 6), api.Trip{Day: 9, Kilos: 6}, []int{0}, []int{3}, 9, api.OK},
		{"fewer papers that come later", alone(1, 2, 2, 3, 3), api.Trip{Day: 9, Kilos: 6}, []int{0}, []int{3, 4}, 9, api.OK},
		{"twelve papers", alone(1, 1, 1, 1, 1, 1, 1, 1, 1, 1, 1, 1), api.Trip{Day: 9, Kilos: 12}, []int{0}, all, 9, api.OK},
		{"two ways that are as good", square(2, 2), through, []int{0, 1, 3}, []int{0, 1, 3}, 2, api.OK},
		{"the second one is sooner", square(3, 2), through, []int{0, 2, 3}, []int{0, 2, 3}, 2, api.OK},
		{"the first one is sooner", square(2, 3), through, []int{0, 1, 3}, []int{0, 1, 3}, 2, api.OK},
		{"fewer papers, but later", square(2, 9, paper(0, 0, 0, 99, 5), paper(1, 0, 0, 99, 5), paper(2, 0, 0, 99, 9), paper(3, 0, 0, 99, 5)), api.Trip{To: 3, Kilos: 6}, []int{0, 2, 3}, []int{0, 3, 4, 6, 7}, 9, api.OK},
		{"by more lands, but fewer papers", api.Zone{Lands: 3, Roads: []api.Road{road(0, 1, 1), road(0, 2, 1), road(1, 2, 1)}, Papers: []api.Paper{paper(0, 0, 0, 9, 9), paper(2, 0, 1, 1, 2), paper(2, 0, 1, 1, 2), paper(2, 0, 1, 1, 2), paper(2, 0, 2, 2, 6), paper(1, 0, 0, 9, 6)}}, api.Trip{To: 2, Kilos: 6}, []int{0, 1, 2}, []int{0, 4, 5}, 2, api.OK},
		{"as good by more lands that come first", api.Zone{Lands: 5, Roads: []api.Road{road(0, 3, 1), road(3, 4, 2), road(0, 1, 1), road(1, 2, 1), road(2, 4, 1)}, Papers: []api.Paper{paper(0, 0, 0, 9, 6), paper(1, 0, 0, 9, 6), paper(2, 0, 0, 9, 6), paper(3, 0, 0, 9, 3), paper(3, 0, 0, 9, 3), paper(4, 0, 0, 9, 6)}}, api.Trip{To: 4, Kilos: 6}, []int{0, 1, 2, 4}, []int{0, 1, 2, 5}, 3, api.OK},
		{"days without travel", square(1, 1, paper(1, 0, 0, 0, 1)), api.Trip{To: 1, Kilos: 6}, nil, nil, 0, api.ErrPaper},
		{"through all lands", line(), api.Trip{To: 5, Code: 9, Kilos: 100000}, []int{0, 1, 2, 3, 4, 5}, all, 150, api.OK},
		{"through all lands, a day later", line(), api.Trip{To: 5, Code: 9, Day: 1, Kilos: 50001}, nil, nil, 0, api.ErrPaper},
		{"through all lands on the last day", line(), api.Trip{To: 5, Code: 9, Day: 1850, Kilos: 50000}, []int{0, 1, 2, 3, 4, 5}, []int{1, 3, 5, 7, 9, 11}, 2000, api.OK},
		{"after the last day", line(), api.Trip{To: 5, Code: 9, Day: 1851, Kilos: 1}, nil, nil, 0, api.ErrPaper},
	} {
		way, list, day, e := papers.Complete(c.z, c.t)
		if !slices.Equal(way, c.way) || !slices.Equal(list, c.papers) || day != c.day || e != c.e {
			t.Errorf("%s: %v %v %d %d, not %v %v %d %d", c.name, way, list, day, e, c.way, c.papers, c.day, c.e)
		}
	}
}

// TestP9_2When: the soonest day of trips, and the most kilograms that can go.
func TestP9_2When(t *testing.T) {
	end := api.Zone{Lands: 2, Roads: []api.Road{road(1, 0, 5)}, Papers: []api.Paper{paper(0, 0, 0, 2000, 9), paper(1, 0, 1999, 2000, 9)}}
	apart := api.Zone{Lands: 2, Roads: []api.Road{road(0, 1, 1)}, Papers: []api.Paper{paper(0, 0, 3, 5, 4), paper(0, 0, 8, 9, 6), paper(1, 0, 6, 6, 3), paper(1, 0, 9, 9, 5)}}
	for _, c := range []struct {
		name string
		z    api.Zone
		t    api.Trip
		day  int
		e    api.Errno
		most int
	}{
		{"t on 5", zoneZ(), tripT(5, 4000), 5, api.OK, 4000},
		{"t on 12", zoneZ(), tripT(12, 4000), 19, api.OK, 2500},
		{"5000 kilograms on 12", zoneZ(), tripT(12, 5000), 0, api.ErrLate, 2500},
		{"100000 kilograms on 5", zoneZ(), tripT(5, 100000), 0, api.ErrLate, 5000},
		{"less than could go", zoneZ(), tripT(5, 4999), 5, api.OK, 4999},
		{"as much as can go", zoneZ(), tripT(5, 5000), 5, api.OK, 5000},
		{"more than can go", zoneZ(), tripT(5, 5001), 0, api.ErrLate, 5000},
		{"nothing can go on the day", zoneZ(), tripT(99, 1), 0, api.ErrLate, 0},
		{"in one land", zoneZ(), api.Trip{From: 3, To: 3, Code: 5, Kilos: 4000}, 20, api.OK, 0},
		{"another code", zoneZ(), api.Trip{To: 2, Code: 6, Kilos: 1}, 0, api.ErrLate, 0},
		{"each land on days of its own", apart, api.Trip{To: 1, Kilos: 3}, 5, api.OK, 0},
		{"more on another day", apart, api.Trip{To: 1, Kilos: 4}, 8, api.OK, 0},
		{"later than the first days", apart, api.Trip{To: 1, Day: 6, Kilos: 1}, 8, api.OK, 0},
		{"too much for one land alone", apart, api.Trip{To: 1, Kilos: 6}, 0, api.ErrLate, 0},
		{"the less of both lands", apart, api.Trip{To: 1, Day: 5, Kilos: 9}, 0, api.ErrLate, 3},
		{"at the end of all days", end, api.Trip{To: 1, Kilos: 9}, 1994, api.OK, 0},
		{"on the last day that is good", end, api.Trip{To: 1, Day: 1995, Kilos: 9}, 1995, api.OK, 9},
		{"beyond the end of all days", end, api.Trip{To: 1, Day: 1996, Kilos: 9}, 0, api.ErrLate, 0},
		{"more than can go at the end", end, api.Trip{To: 1, Day: 1995, Kilos: 10}, 0, api.ErrLate, 9},
		{"on the last day", end, api.Trip{From: 1, To: 1, Day: 2000, Kilos: 9}, 2000, api.OK, 9},
		{"the better one of two ways", square(2, 2, paper(0, 0, 0, 99, 9), paper(2, 0, 0, 99, 2), paper(3, 0, 0, 99, 9)), api.Trip{To: 3, Kilos: 20}, 0, api.ErrLate, 7},
		{"all papers of a land together", alone(3, 5, 4), api.Trip{Kilos: 100000}, 0, api.ErrLate, 0},
		{"all papers of a land together on a day", alone(3, 5, 4), api.Trip{Day: 5, Kilos: 100000}, 0, api.ErrLate, 12},
		{"through all lands", line(), api.Trip{To: 5, Code: 9, Kilos: 100000}, 0, api.OK, 100000},
	} {
		day, e := papers.Soonest(c.z, c.t)
		if day != c.day || e != c.e {
			t.Errorf("%s: Soonest %d %d, not %d %d", c.name, day, e, c.day, c.e)
		}
		if most, e := papers.Most(c.z, c.t); most != c.most || e != api.OK {
			t.Errorf("%s: Most %d %d, not %d", c.name, most, e, c.most)
		}
	}
}

// TestP9_3Missing: lands whose papers are missing.
func TestP9_3Missing(t *testing.T) {
	bare := square(2, 2)
	bare.Papers = nil
	for _, c := range []struct {
		name string
		z    api.Zone
		t    api.Trip
		want []int
	}{
		{"t on 12", zoneZ(), tripT(12, 4000), []int{1}},
		{"t on 5", zoneZ(), tripT(5, 4000), nil},
		{"6000 kilograms on 5", zoneZ(), tripT(5, 6000), []int{0, 1}},
		{"5500 kilograms on 5", zoneZ(), tripT(5, 5500), []int{0}},
		{"5500 kilograms on 25", zoneZ(), tripT(25, 5500), []int{0, 1}},
		{"in the end alone", zoneZ(), tripT(99, 1), []int{2}},
		{"everywhere", zoneZ(), tripT(2000, 1), []int{0, 1, 2}},
		{"by the second way", zoneZ(), tripT(25, 3000), nil},
		{"back", zoneZ(), api.Trip{From: 2, To: 0, Code: 5, Day: 25, Kilos: 5500}, []int{0, 1}},
		{"in one land", zoneZ(), api.Trip{From: 3, To: 3, Code: 5, Day: 19, Kilos: 1}, []int{3}},
		{"in one land, nothing", zoneZ(), api.Trip{From: 3, To: 3, Code: 5, Day: 20, Kilos: 1}, nil},
		{"of several lists the first one", bare, api.Trip{To: 3, Kilos: 1}, []int{0, 1, 3}},
		{"ascending, not as the way goes", bare, api.Trip{From: 3, To: 1, Kilos: 1}, []int{1, 3}},
		{"the fewest lands", with(bare, paper(2, 0, 0, 9, 1)), api.Trip{To: 3, Kilos: 1}, []int{0, 3}},
		{"fewer lands that come later", with(bare, paper(0, 0, 0, 9, 1), paper(3, 0, 0, 9, 1)), api.Trip{To: 2, Kilos: 1}, []int{2}},
		{"too few kilograms", square(2, 2), api.Trip{To: 3, Kilos: 6}, []int{0, 1, 3}},
		{"the first list is that of the second way", api.Zone{Lands: 5, Roads: []api.Road{road(4, 1, 1), road(1, 3, 1), road(4, 2, 1), road(2, 0, 1), road(0, 3, 1)}, Papers: []api.Paper{paper(4, 0, 0, 9, 9), paper(3, 0, 0, 9, 9), paper(2, 0, 0, 9, 9)}}, api.Trip{From: 4, To: 3, Kilos: 1}, []int{0}},
	} {
		if list, e := papers.Missing(c.z, c.t); !slices.Equal(list, c.want) || e != api.OK {
			t.Errorf("%s: %v %d, not %v", c.name, list, e, c.want)
		}
	}
}

// TestP9_4Book: how many kilograms are left on papers, and the replies to trips.
func TestP9_4Book(t *testing.T) {
	bare := withZ(func(z *api.Zone) { z.Roads = nil })
	here := func(day, kilos int) api.Trip { return api.Trip{Day: day, Kilos: kilos} }
	for _, c := range []struct {
		name    string
		z       api.Zone
		trips   []api.Trip
		left    []int
		replies []api.Errno
	}{
		{"two trips", zoneZ(), []api.Trip{tripT(5, 4000), tripT(6, 2000)}, []int{1000, 0, 1500, 5000, 4000}, []api.Errno{api.OK, api.ErrPaper}},
		{"the other way round", zoneZ(), []api.Trip{tripT(6, 2000), tripT(5, 4000)}, []int{3000, 1000, 2500, 7000, 4000}, []api.Errno{api.OK, api.ErrPaper}},
		{"no trips", zoneZ(), nil, []int{5000, 3000, 2500, 9000, 4000}, nil},
		{"no papers", bare, nil, []int{5000, 3000, 2500, 9000, 4000}, nil},
		{"without papers", alone(), []api.Trip{here(5, 1)}, nil, []api.Errno{api.ErrPaper}},
		{"all errors", bare, []api.Trip{tripT(5, 1), {From: 4}, {Code: 10}, {From: 3, To: 3, Code: 5, Kilos: 1}, {From: 3, To: 3, Code: 5, Day: 20, Kilos: 1}}, []int{5000, 3000, 2500, 9000, 3999}, []api.Errno{api.ErrState, api.ErrUnknown, api.ErrValue, api.ErrPaper, api.OK}},
		{"the last kilogram, and then none", alone(3), []api.Trip{here(3, 2), here(4, 1), here(5, 1)}, []int{0}, []api.Errno{api.OK, api.OK, api.ErrPaper}},
		{"a refused trip changes nothing", alone(3), []api.Trip{here(3, 2), here(4, 2), here(5, 1)}, []int{0}, []api.Errno{api.OK, api.ErrPaper, api.OK}},
		{"the least number first", alone(3, 5, 4), []api.Trip{here(3, 7)}, []int{0, 1, 4}, []api.Errno{api.OK}},
		{"of the fewest papers alone", alone(3, 5, 4), []api.Trip{here(3, 9)}, []int{3, 0, 0}, []api.Errno{api.OK}},
		{"as much as the first one has", alone(3, 5, 4), []api.Trip{here(3, 8)}, []int{0, 0, 4}, []api.Errno{api.OK}},
		{"by another paper next time", alone(3, 5, 4), []api.Trip{here(3, 4), here(3, 4), here(3, 4)}, []int{0, 0, 0}, []api.Errno{api.OK, api.OK, api.OK}},
		{"by another way next time", square(2, 2, paper(0, 0, 0, 99, 5), paper(3, 0, 0, 99, 5)), []api.Trip{{To: 3, Kilos: 5}, {To: 3, Kilos: 5}, {To: 3, Kilos: 1}}, make([]int, 6), []api.Errno{api.OK, api.OK, api.ErrPaper}},
		{"in each land of the way", square(2, 3), []api.Trip{{To: 3, Kilos: 2}}, []int{3, 3, 5, 3}, []api.Errno{api.OK}},
	} {
		left, replies, e := papers.Book(c.z, c.trips)
		if !slices.Equal(left, c.left) || !slices.Equal(replies, c.replies) || e != api.OK {
			t.Errorf("%s: %v %v %d, not %v %v", c.name, left, replies, e, c.left, c.replies)
		}
	}
}

// TestP9_4Many: 20 trips, and 21.
func TestP9_4Many(t *testing.T) {
	trips := slices.Repeat([]api.Trip{{Day: 3, Kilos: 5}}, 21)
	left, replies, e := papers.Book(alone(99), trips[:20])
	if !slices.Equal(left, []int{4}) || len(replies) != 20 || replies[18] != api.OK || replies[19] != api.ErrPaper || e != api.OK {
		t.Error(left, replies, e)
	}
	if left, replies, e := papers.Book(alone(99), trips); left != nil || replies != nil || e != api.ErrMany {
		t.Error(left, replies, e)
	}
}

// roomy returns a copy of a list with zeros behind it.
func roomy[T any](list []T) []T { return append(make([]T, 0, 9), list...) }

// isRoomy tells whether a list that was roomy still has its elements, and zeros behind it.
func isRoomy[T comparable](list, elements []T) bool {
	return slices.Equal(list[:9], append(slices.Clone(elements), make([]T, 9-len(elements))...))
}

// TestRules: no argument is changed or kept, and no result shares memory (R2, R4).
func TestRules(t *testing.T) {
	z, given := zoneZ(), []api.Trip{tripT(5, 4000), tripT(6, 2000)}
	z.Roads, z.Papers = roomy(z.Roads), roomy(z.Papers)
	trips := roomy(given)
	for range 2 {
		papers.Check(z)
		papers.CheckTrip(z, trips[0])
		way, list, _, _ := papers.Complete(z, trips[0])
		papers.Soonest(z, trips[0])
		papers.Most(z, trips[0])
		missing, _ := papers.Missing(z, tripT(5, 6000))
		left, replies, _ := papers.Book(z, trips)
		text, _ := papers.Folder(z)
		read, _, _ := papers.Parse(text)
		isSame := slices.Equal(way, []int{0, 1, 2}) && slices.Equal(list, []int{0, 1, 2, 3}) && slices.Equal(missing, []int{0, 1})
		if !isSame || left[0] != 1000 || replies[0] != api.OK || !sameZone(read, zoneZ()) {
			t.Error("two results share memory", way, list, missing, left, replies, read)
		}
		way[0], list[0], missing[0], left[0], replies[0] = 9, 9, 9, 9, 9
		read.Roads[0], read.Papers[0] = api.Road{}, api.Paper{}
	}
	if !isRoomy(z.Roads, zoneZ().Roads) || !isRoomy(z.Papers, zoneZ().Papers) || !isRoomy(trips, given) {
		t.Error("an argument was changed")
	}
}

// TestR6: many calls at the same time return the same, in whatever order goroutines run.
func TestR6(t *testing.T) {
	r := rand.New(rand.NewSource(66))
	for range 100 {
		z := randomZone(r, large)
		trip := randomTrip(r, z, large)
		way, list, day, e := papers.Complete(z, trip)
		missing, _ := papers.Missing(z, trip)
		for range 20 {
			checkComplete(t, z, trip, found{way: way, papers: list, day: day, e: e})
			if again, _ := papers.Missing(z, trip); !slices.Equal(again, missing) {
				t.Fatalf("%v, %v: %v and %v are missing", z, trip, missing, again)
			}
		}
	}
}

// wild returns a random number, often one at a bound or far beyond.
func wild(r *rand.Rand) int {
	numbers := []int{0, 0, 0, 1, 1, 1, 2, 2, 3, -1, -1, -2, 6, 7, 9, 10, 12, 13, 30, 31, 2000, 2001, 100000, 100001, math.MaxInt, math.MinInt, math.MaxInt32, math.MinInt32}
	return numbers[r.Intn(len(numbers))]
}

// wildZone returns a zone with some wild numbers, or some more roads and papers than there may be.
func wildZone(r *rand.Rand) api.Zone {
	z := randomZone(r, large)
	if r.Intn(9) == 0 {
		z.Roads = append(z.Roads, z.Roads...)
		z.Papers = append(z.Papers, z.Papers...)
	}
	numbers := []*int{&z.Lands}
	for i := range z.Roads {
		numbers = append(numbers, &z.Roads[i].A, &z.Roads[i].B, &z.Roads[i].Days)
	}
	for i := range z.Papers {
		p := &z.Papers[i]
		numbers = append(numbers, &p.Land, &p.Code, &p.First, &p.Last, &p.Kilos)
	}
	for range r.Intn(3) {
		*numbers[r.Intn(len(numbers))] = wild(r)
	}
	return z
}

// wildList returns a list of so many wild things at most.
func wildList[T any](r *rand.Rand, most int, thing func() T) []T {
	var list []T
	for range r.Intn(most + 1) {
		list = append(list, thing())
	}
	return list
}

// TestP1: no call panics, whatever the arguments are.
func TestP1(t *testing.T) {
	r := rand.New(rand.NewSource(1))
	words := []string{"lands", "road", "paper", "end", "=", ",", "=1", "=0,1,2", "=0,0,0,9,5", "\n", "\n", "\n", "\xff"}
	trip := func() api.Trip {
		return api.Trip{From: wild(r), To: wild(r), Code: wild(r), Day: wild(r), Kilos: wild(r)}
	}
	for range 3000 {
		z := wildZone(r)
		papers.Check(z)
		papers.Folder(z)
		for range 4 {
			x := trip()
			papers.CheckTrip(z, x)
			papers.Complete(z, x)
			papers.Soonest(z, x)
			papers.Most(z, x)
			papers.Missing(z, x)
		}
		papers.Book(z, wildList(r, 22, trip))
		text := strings.Join(wildList(r, 30, func() string { return words[r.Intn(len(words))] }), "")
		papers.Parse("lands=2\n" + text)
		papers.Parse(text)
	}
}
