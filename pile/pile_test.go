package pile_test

import (
	"math"
	"math/rand"
	"slices"
	"testing"

	"swarf/api"
	"swarf/pile"
)

const a, n, u = api.Always, api.Nowhere, api.Unsure

// groundErrors are grounds with their first errors, in the chapter's order: each one has an error that comes later, too, where there is one.
var groundErrors = []struct {
	name   string
	change func(g *api.Ground)
	want   api.Errno
}{
	{"as it is", asIs, api.OK},
	{"without acts", func(g *api.Ground) { g.Acts = nil }, api.OK},
	{"no spot", func(g *api.Ground) { g.Spots, g.Sorts = nil, make([]api.Sort, 5) }, api.ErrFew},
	{"an empty list of spots", func(g *api.Ground) { g.Spots = []api.Spot{} }, api.ErrFew},
	{"1 spot", func(g *api.Ground) { g.Spots, g.Acts = g.Spots[:1], nil }, api.OK},
	{"4 spots", func(g *api.Ground) { g.Spots = append(g.Spots, api.Spot{Area: 1}) }, api.OK},
	{"5 spots", func(g *api.Ground) { g.Spots = make([]api.Spot, 5) }, api.ErrMany},
	{"X -1", func(g *api.Ground) { g.Spots[0].X, g.Sorts = -1, nil }, api.ErrValue},
	{"X 1001", func(g *api.Ground) { g.Spots[0].X, g.Sorts = 1001, nil }, api.ErrValue},
	{"Y -1", func(g *api.Ground) { g.Spots[1].Y, g.Sorts = -1, nil }, api.ErrValue},
	{"Y 1001", func(g *api.Ground) { g.Spots[1].Y, g.Sorts = 1001, nil }, api.ErrValue},
	{"Area 0", func(g *api.Ground) { g.Spots[2].Area, g.Sorts = 0, nil }, api.ErrValue},
	{"Area 1001", func(g *api.Ground) { g.Spots[2].Area, g.Sorts = 1001, nil }, api.ErrValue},
	{"greatest spot", func(g *api.Ground) { g.Spots[2] = api.Spot{X: 1000, Y: 1000, Area: 1000} }, api.OK},
	{"least spot", func(g *api.Ground) { g.Spots[2] = api.Spot{Area: 1} }, api.OK},
	{"no sort", func(g *api.Ground) { g.Sorts, g.Acts = nil, make([]api.Act, 11) }, api.ErrFew},
	{"an empty list of sorts", func(g *api.Ground) { g.Sorts, g.Acts = []api.Sort{}, nil }, api.ErrFew},
	{"4 sorts", func(g *api.Ground) { g.Sorts = append(g.Sorts, tall, tall) }, api.OK},
	{"5 sorts", func(g *api.Ground) { g.Sorts, g.Acts = make([]api.Sort, 5), make([]api.Act, 11) }, api.ErrMany},
	{"High 0", func(g *api.Ground) { g.Sorts[0].High, g.Acts = 0, make([]api.Act, 11) }, api.ErrValue},
	{"High 1001", func(g *api.Ground) { g.Sorts[0].High, g.Acts = 1001, make([]api.Act, 11) }, api.ErrValue},
	{"Dense 0", func(g *api.Ground) { g.Sorts[0].Dense, g.Acts = 0, make([]api.Act, 11) }, api.ErrValue},
	{"Dense 8001", func(g *api.Ground) { g.Sorts[0].Dense, g.Acts = 8001, make([]api.Act, 11) }, api.ErrValue},
	{"Fire -1", func(g *api.Ground) { g.Sorts[1].Fire, g.Acts = -1, make([]api.Act, 11) }, api.ErrValue},
	{"Fire 101", func(g *api.Ground) { g.Sorts[1].Fire, g.Acts = 101, make([]api.Act, 11) }, api.ErrValue},
	{"Age -1", func(g *api.Ground) { g.Sorts[1].Age, g.Acts = -1, make([]api.Act, 11) }, api.ErrValue},
	{"Age 73", func(g *api.Ground) { g.Sorts[1].Age, g.Acts = 73, make([]api.Act, 11) }, api.ErrValue},
	{"greatest sort", func(g *api.Ground) { g.Sorts[1] = api.Sort{High: 1000, Dense: 8000, Fire: 100, Age: 72} }, api.OK},
	{"least sort", func(g *api.Ground) { g.Sorts[1] = api.Sort{High: 1, Dense: 1} }, api.OK},
	{"10 acts", func(g *api.Ground) { g.Acts = slices.Repeat([]api.Act{tip(72, 2, 1, 1, 1)}, 10) }, api.OK},
	{"11 acts", func(g *api.Ground) { g.Acts = make([]api.Act, 11) }, api.ErrMany},
	{"Hour -1", func(g *api.Ground) { g.Acts[0] = tip(-1, 9, 0, 1, 1) }, api.ErrValue},
	{"Hour 73", func(g *api.Ground) { g.Acts[4] = tip(73, 9, 0, 1, 1) }, api.ErrValue},
	{"Hour -1 after another one", func(g *api.Ground) { g.Acts[4].Hour = -1 }, api.ErrValue},
	{"Hour 0 and 72", func(g *api.Ground) { g.Acts[0].Hour, g.Acts[4].Hour = 0, 72 }, api.OK},
	{"an hour before", func(g *api.Ground) { g.Acts[1] = tip(0, 9, 0, 1, 1) }, api.ErrOrder},
	{"the last hour before", func(g *api.Ground) { g.Acts[4].Hour = 4 }, api.ErrOrder},
	{"all at one hour", func(g *api.Ground) { g.Acts = []api.Act{tip(5, 0, 0, 1, 1), take(5, 0, 1, 1), tip(5, 0, 0, 1, 1)} }, api.OK},
	{"the first act first", func(g *api.Ground) { g.Acts[1].Mass, g.Acts[2].Hour = rng(2, 1), 73 }, api.ErrOrder},
	{"spot -1", func(g *api.Ground) { g.Acts[1] = take(2, -1, 0, 0) }, api.ErrUnknown},
	{"spot 3", func(g *api.Ground) { g.Acts[1] = take(2, 3, 0, 0) }, api.ErrUnknown},
	{"spot of a take", func(g *api.Ground) { g.Acts[3].Spot, g.Acts[3].Sort = 3, 1 }, api.ErrUnknown},
	{"sort -1", func(g *api.Ground) { g.Acts[1] = tip(2, 2, -1, 0, 0) }, api.ErrUnknown},
	{"sort 2", func(g *api.Ground) { g.Acts[1] = tip(2, 2, 2, 0, 0) }, api.ErrUnknown},
	{"a take of the sort 2", func(g *api.Ground) { g.Acts[3].Sort = 2 }, api.ErrUnknown},
	{"a take of the sort -1", func(g *api.Ground) { g.Acts[3].Sort = -1 }, api.ErrUnknown},
	{"a take of the sort 1", func(g *api.Ground) { g.Acts[3].Sort, g.Acts[3].Mass = 1, rng(0, 0) }, api.ErrForm},
	{"Mass from 0", func(g *api.Ground) { g.Acts[4].Mass = rng(0, 5) }, api.ErrValue},
	{"Mass to 1000001", func(g *api.Ground) { g.Acts[4].Mass = rng(5, 1000001) }, api.ErrValue},
	{"Mass 1000001..5", func(g *api.Ground) { g.Acts[4].Mass = rng(1000001, 5) }, api.ErrValue},
	{"Mass 5..0", func(g *api.Ground) { g.Acts[3].Mass = rng(5, 0) }, api.ErrValue},
	{"Mass 6..5", func(g *api.Ground) { g.Acts[4].Mass = rng(6, 5) }, api.ErrOrder},
	{"Mass 1..1000000", func(g *api.Ground) { g.Acts[4].Mass = rng(1, 1000000) }, api.OK},
	{"a ground that may not be", func(g *api.Ground) { g.Acts[0] = take(1, 0, 1, 1) }, api.OK},
}

// TestP5_1Check: Check, and all functions that return its error first.
func TestP5_1Check(t *testing.T) {
	for _, c := range groundErrors {
		g := withG(c.change)
		if e := pile.Check(g); e != c.want {
			t.Errorf("%s: Check %d, not %d", c.name, e, c.want)
		}
		if c.want == api.OK {
			continue
		}
		masses, e1 := pile.Masses(g, -1)
		older, e2 := pile.Older(g, 9, -1, -1)
		perhaps, surely, e3 := pile.Breaks(g)
		room, e4 := pile.Room(g, -1, 9, 0)
		text, e5 := pile.Write(g)
		if e1 != c.want || e2 != c.want || e3 != c.want || e4 != c.want || e5 != c.want {
			t.Errorf("%s: %d %d %d %d %d, not %d", c.name, e1, e2, e3, e4, e5, c.want)
		}
		if masses != nil || older != 0 || perhaps != 0 || surely != 0 || room != nil || text != "" {
			t.Errorf("%s: %v %v %v %v %v %q with an error", c.name, masses, older, perhaps, surely, room, text)
		}
	}
}

// TestP5_1Masses: what may lie where, by what was done before and later, and all errors in their order.
func TestP5_1Masses(t *testing.T) {
	much := withF(func(g *api.Ground) { g.Acts[3].Mass = rng(20000, 22000) })
	more := withF(func(g *api.Ground) { g.Acts[3].Mass = rng(20500, 22000) })
	conflict := withF(func(g *api.Ground) { g.Acts[3].Mass = rng(21001, 22000) })
	two := rng(2000, 2500)
	for _, c := range []struct {
		name string
		g    api.Ground
		hour int
		want []api.Range
		e    api.Errno
	}{
		{"G at 0", groundG(), 0, make([]api.Range, 3), api.OK},
		{"G at 1", groundG(), 1, []api.Range{rng(8000, 9000), {}, {}}, api.OK},
		{"G at 3", groundG(), 3, []api.Range{rng(19500, 21000), {}, two}, api.OK},
		{"G at 4", groundG(), 4, []api.Range{rng(19500, 21000), {}, two}, api.OK},
		{"G at 5", groundG(), 5, []api.Range{rng(13500, 16000), {}, two}, api.OK},
		{"G at 72", groundG(), 72, []api.Range{rng(13500, 16000), rng(1000, 1000), two}, api.OK},
		{"much, at 5", much, 5, []api.Range{rng(0, 1000), {}, two}, api.OK},
		{"much, before", much, 3, []api.Range{rng(20000, 21000), {}, two}, api.OK},
		{"much, at first", much, 1, []api.Range{rng(8000, 9000), {}, {}}, api.OK},
		{"more, at first", more, 1, []api.Range{rng(8500, 9000), {}, {}}, api.OK},
		{"more, at last", more, 72, []api.Range{rng(0, 500), {}, two}, api.OK},
		{"nothing was done", apart(), 9, make([]api.Range, 4), api.OK},
		{"all may be gone", apart(tip(1, 3, 0, 5, 7), take(1, 3, 5, 9)), 1, []api.Range{{}, {}, {}, rng(0, 2)}, api.OK},
		{"all is gone", apart(tip(1, 3, 0, 5, 7), take(1, 3, 7, 9)), 1, make([]api.Range, 4), api.OK},
		{"all was there", apart(tip(1, 3, 0, 5, 7), take(2, 3, 7, 9)), 1, []api.Range{{}, {}, {}, rng(7, 7)}, api.OK},
		{"a take that leaves enough for the next one", apart(tip(1, 0, 0, 10, 10), take(2, 0, 1, 9), take(3, 0, 6, 6)), 2, []api.Range{rng(6, 9), {}, {}, {}}, api.OK},
		{"a take before a tip", apart(tip(1, 0, 0, 5, 9), take(2, 0, 6, 8), tip(3, 0, 0, 1, 1)), 3, []api.Range{rng(1, 4), {}, {}, {}}, api.OK},
		{"a later tip is of no use for a take", apart(tip(1, 0, 0, 5, 5), take(2, 0, 6, 8), tip(2, 0, 0, 100, 100)), 0, nil, api.ErrConflict},
		{"what is tipped elsewhere neither", apart(tip(1, 0, 0, 5, 5), tip(1, 1, 0, 5, 5), take(2, 0, 6, 8)), 0, nil, api.ErrConflict},
		{"two takes are too much", apart(tip(1, 0, 0, 5, 5), take(2, 0, 3, 4), take(2, 0, 3, 4)), 0, nil, api.ErrConflict},
		{"two takes are all", apart(tip(1, 0, 0, 5, 5), take(2, 0, 2, 4), take(2, 0, 3, 4)), 2, make([]api.Range, 4), api.OK},
		{"nothing was there", apart(take(2, 0, 1, 9)), 0, nil, api.ErrConflict},
		{"ten million", apart(slices.Repeat([]api.Act{tip(1, 0, 0, 1, 1000000)}, 10)...), 1, []api.Range{rng(10, 10000000), {}, {}, {}}, api.OK},
		{"hour 73", conflict, 73, nil, api.ErrValue},
		{"hour -1", conflict, -1, nil, api.ErrValue},
		{"hour far beyond", conflict, math.MinInt, nil, api.ErrValue},
		{"may not be", conflict, 1, nil, api.ErrConflict},
		{"may not be later", conflict, 0, nil, api.ErrConflict},
		{"may not be before", withG(func(g *api.Ground) { g.Acts[4] = take(8, 1, 1000, 1000) }), 72, nil, api.ErrConflict},
	} {
		if list, e := pile.Masses(c.g, c.hour); !slices.Equal(list, c.want) || e != c.e {
			t.Errorf("%s: %v %d, not %v %d", c.name, list, e, c.want, c.e)
		}
	}
}

// TestP5_1Older: what was tipped first is taken first, and all errors in their order.
func TestP5_1Older(t *testing.T) {
	taken := func(low, high int) api.Ground {
		return withF(func(g *api.Ground) { g.Acts[3].Mass = rng(low, high) })
	}
	conflict := taken(21001, 22000)
	three := apart(tip(1, 1, 0, 5, 5), tip(2, 1, 1, 5, 5), take(4, 1, 7, 8), tip(5, 1, 0, 5, 5), take(6, 1, 1, 3))
	for _, c := range []struct {
		name            string
		g               api.Ground
		spot, hour, age int
		want            int
		e               api.Errno
	}{
		{"G, 0", groundG(), 0, 6, 4, a, api.OK},
		{"just as old", groundG(), 0, 6, 5, n, api.OK},
		{"G, 2", groundG(), 2, 6, 4, n, api.OK},
		{"an hour later", groundG(), 2, 7, 4, a, api.OK},
		{"at the hour of the tip", groundG(), 1, 8, 0, n, api.OK},
		{"before the tip", groundG(), 1, 7, 0, n, api.OK},
		{"long after", groundG(), 1, 72, 63, a, api.OK},
		{"not so long", groundG(), 1, 72, 64, n, api.OK},
		{"72 hours", groundG(), 0, 72, 72, n, api.OK},
		{"before the take", taken(9000, 9500), 0, 4, 2, a, api.OK},
		{"some may be gone", taken(8500, 9500), 0, 5, 3, u, api.OK},
		{"all is gone", taken(9000, 9500), 0, 5, 3, n, api.OK},
		{"but not of the next one", taken(9000, 9500), 0, 5, 1, a, api.OK},
		{"some is there", taken(7999, 7999), 0, 5, 3, a, api.OK},
		{"just all may be gone", taken(8000, 8000), 0, 5, 3, u, api.OK},
		{"the whole spot may be empty", taken(20000, 22000), 0, 5, 1, u, api.OK},
		{"nothing is on the spot", apart(), 2, 72, 0, n, api.OK},
		{"of three the first one", three, 1, 4, 2, n, api.OK},
		{"the second one", three, 1, 4, 1, a, api.OK},
		{"the second one later", three, 1, 6, 3, u, api.OK},
		{"the third one", three, 1, 6, 0, a, api.OK},
		{"spot 3", conflict, 3, 99, 4, 0, api.ErrUnknown},
		{"spot -1", conflict, -1, 6, -1, 0, api.ErrUnknown},
		{"hour 73", conflict, 0, 73, 3, 0, api.ErrValue},
		{"hour -1", conflict, 0, -1, 3, 0, api.ErrValue},
		{"age 73", conflict, 0, 6, 73, 0, api.ErrValue},
		{"age -1", conflict, 0, 6, -1, 0, api.ErrValue},
		{"far beyond", conflict, 0, math.MaxInt, math.MinInt, 0, api.ErrValue},
		{"may not be", conflict, 1, 6, 4, 0, api.ErrConflict},
	} {
		if is, e := pile.Older(c.g, c.spot, c.hour, c.age); is != c.want || e != c.e {
			t.Errorf("%s: %d %d, not %d %d", c.name, is, e, c.want, c.e)
		}
	}
}

// sorted returns a ground of one sort on one spot.
func sorted(sort api.Sort, area int, acts ...api.Act) api.Ground {
	return api.Ground{Spots: []api.Spot{{Area: area}}, Sorts: []api.Sort{sort}, Acts: acts}
}

// TestP5_2Breaks: each rule by itself, and several ones.
func TestP5_2Breaks(t *testing.T) {
	odd := api.Sort{High: 3, Dense: 17, Fire: 100, Age: 72}
	old := func(age int) api.Sort { return api.Sort{High: 1000, Dense: 1000, Age: age} }
	for _, c := range []struct {
		name            string
		g               api.Ground
		perhaps, surely int
		e               api.Errno
	}{
		{"G", groundG(), 3, 8, api.OK},
		{"F", withF(asIs), 3, 13, api.OK},
		{"F with 8000 at first", withF(func(g *api.Ground) { g.Acts[0].Mass = rng(8000, 8000) }), 13, 13, api.OK},
		{"F with 8501 at first", withF(func(g *api.Ground) { g.Acts[0].Mass = rng(8501, 8501) }), 3, 3, api.OK},
		{"F with 8500 at first", withF(func(g *api.Ground) { g.Acts[0].Mass = rng(8500, 8500) }), 3, 13, api.OK},
		{"F with another sort on 0", withF(func(g *api.Ground) { g.Acts[2].Sort = 1 }), 3, 3, api.OK},
		{"the first tip", withF(func(g *api.Ground) { g.Acts = g.Acts[:1] }), -1, -1, api.OK},
		{"nothing was done", withF(func(g *api.Ground) { g.Acts = nil }), -1, -1, api.OK},
		{"may not be", withF(func(g *api.Ground) { g.Acts[3].Mass = rng(21001, 22000) }), 0, 0, api.ErrConflict},

		{"as high as may be", sorted(odd, 100, tip(0, 0, 0, 51, 51)), -1, -1, api.OK},
		{"higher", sorted(odd, 100, tip(0, 0, 0, 52, 52)), 0, 0, api.OK},
		{"a part of a kilogram", sorted(odd, 1, tip(0, 0, 0, 1, 1)), 0, 0, api.OK},
		{"the highest heap", sorted(tall, 1000, slices.Repeat([]api.Act{tip(9, 0, 0, 1000000, 1000000)}, 10)...), -1, -1, api.OK},
		{"perhaps higher", sorted(odd, 100, tip(5, 0, 0, 50, 52)), 5, -1, api.OK},
		{"higher, but taken in this hour", sorted(odd, 100, tip(5, 0, 0, 90, 90), take(5, 0, 39, 50)), -1, -1, api.OK},
		{"higher until the next hour", sorted(odd, 100, tip(5, 0, 0, 90, 90), take(6, 0, 39, 50)), 5, 5, api.OK},
		{"surely by two tips", sorted(odd, 100, tip(5, 0, 0, 1, 60), tip(6, 0, 0, 1, 60), tip(7, 0, 0, 50, 50)), 5, 7, api.OK},
		{"another sort may be higher", api.Ground{Spots: []api.Spot{{Area: 100}}, Sorts: []api.Sort{odd, tall}, Acts: []api.Act{tip(1, 0, 0, 50, 50), take(2, 0, 50, 50), tip(3, 0, 1, 500, 500)}}, -1, -1, api.OK},
		{"this one may not", api.Ground{Spots: []api.Spot{{Area: 100}}, Sorts: []api.Sort{tall, odd}, Acts: []api.Act{tip(1, 0, 0, 500, 500), take(2, 0, 500, 500), tip(3, 0, 1, 500, 500)}}, 3, 3, api.OK},

		{"too old", sorted(old(4), 1000, tip(5, 0, 0, 10, 10)), 10, 10, api.OK},
		{"nothing may lie for an hour", sorted(old(0), 1000, tip(5, 0, 0, 10, 10)), 6, 6, api.OK},
		{"taken in time", sorted(old(4), 1000, tip(5, 0, 0, 10, 10), take(10, 0, 10, 10)), -1, -1, api.OK},
		{"taken an hour late", sorted(old(4), 1000, tip(5, 0, 0, 10, 10), take(11, 0, 10, 10)), 10, 10, api.OK},
		{"perhaps not all", sorted(old(4), 1000, tip(5, 0, 0, 10, 10), take(10, 0, 9, 10)), 10, -1, api.OK},
		{"some is left", sorted(old(4), 1000, tip(5, 0, 0, 10, 10), take(10, 0, 9, 9)), 10, 10, api.OK},
		{"the first one is taken first", sorted(old(4), 1000, tip(5, 0, 0, 10, 10), tip(7, 0, 0, 10, 10), take(9, 0, 10, 10)), 12, 12, api.OK},
		{"at the last hour", sorted(old(71), 1000, tip(0, 0, 0, 10, 10)), 72, 72, api.OK},
		{"after the last hour", sorted(old(72), 1000, tip(0, 0, 0, 10, 10)), -1, -1, api.OK},
		{"tipped at the last hour", sorted(old(0), 1000, tip(72, 0, 0, 10, 10)), -1, -1, api.OK},

		{"two in the same place", together(tip(3, 0, 0, 1, 1), tip(4, 3, 0, 1, 1)), 4, 4, api.OK},
		{"of a sort that may be anywhere", together(tip(3, 0, 1, 1, 1), tip(4, 3, 1, 1, 1)), -1, -1, api.OK},
		{"of two sorts, one of which may", together(tip(3, 0, 1, 1, 1), tip(4, 3, 0, 1, 1)), 4, 4, api.OK},
		{"the other way round", together(tip(3, 3, 1, 1, 1), tip(4, 0, 0, 1, 1)), 4, 4, api.OK},
		{"one was taken before", together(tip(3, 0, 0, 1, 1), take(4, 0, 1, 1), tip(4, 3, 0, 1, 1)), -1, -1, api.OK},
		{"one is taken later in this hour", together(tip(3, 0, 0, 1, 1), tip(4, 3, 0, 1, 1), take(4, 0, 1, 1)), -1, -1, api.OK},
		{"one is perhaps taken", together(tip(3, 0, 0, 2, 2), tip(4, 3, 0, 1, 1), take(4, 0, 1, 2)), 4, -1, api.OK},
		{"one sort was there before", together(tip(3, 0, 0, 1, 1), take(4, 0, 1, 1), tip(4, 0, 1, 1, 1), tip(5, 1, 1, 1, 1)), -1, -1, api.OK},

		{"two sorts", apart(tip(3, 0, 0, 1, 1), tip(4, 0, 1, 1, 1)), 4, 4, api.OK},
		{"on two spots", apart(tip(3, 0, 0, 1, 1), tip(4, 1, 1, 1, 1)), -1, -1, api.OK},
		{"the first one was taken", apart(tip(3, 0, 0, 1, 1), take(4, 0, 1, 1), tip(4, 0, 1, 1, 1)), -1, -1, api.OK},
		{"the first one was taken later", apart(tip(3, 0, 0, 1, 1), tip(4, 0, 1, 1, 1), take(4, 0, 1, 2)), 4, 4, api.OK},
		{"the first one was perhaps taken", apart(tip(3, 0, 0, 1, 2), take(3, 0, 1, 2), tip(4, 0, 1, 1, 1)), 4, -1, api.OK},
		{"and back", apart(tip(3, 0, 1, 1, 1), take(4, 0, 1, 1), tip(4, 0, 0, 1, 1), tip(5, 0, 1, 1, 1)), 5, 5, api.OK},

		{"perhaps the one, surely the other one", together(tip(3, 0, 0, 1, 9), take(4, 0, 1, 9), tip(5, 1, 0, 1, 1), tip(6, 2, 0, 1, 1)), 5, 6, api.OK},
	} {
		if perhaps, surely, e := pile.Breaks(c.g); perhaps != c.perhaps || surely != c.surely || e != c.e {
			t.Errorf("%s: %d %d %d, not %d %d %d", c.name, perhaps, surely, e, c.perhaps, c.surely, c.e)
		}
	}
}

// TestP5_2Ways: of two heaps either one may be gone, and which one is told by what is done later.
func TestP5_2Ways(t *testing.T) {
	either := []api.Act{tip(1, 0, 0, 9, 9), tip(1, 1, 0, 9, 9), take(1, 0, 8, 9), take(1, 1, 8, 9)}
	for _, c := range []struct {
		name            string
		acts            []api.Act
		perhaps, surely int
	}{
		{"either one is gone", nil, 1, -1},
		{"the first one is not", []api.Act{take(2, 0, 1, 1)}, 1, -1},
		{"the second one is not", []api.Act{take(2, 1, 1, 1)}, 1, -1},
		{"neither one is", []api.Act{take(2, 0, 1, 1), take(2, 1, 1, 1)}, 1, 1},
		{"a third one next to both", []api.Act{tip(3, 2, 0, 9, 9)}, 1, -1},
		{"a third one, the first one is not gone before", []api.Act{take(4, 0, 1, 1), tip(5, 2, 0, 9, 9)}, 1, -1},
		{"a third one, the first one is not gone", []api.Act{tip(3, 2, 0, 9, 9), take(4, 0, 1, 1)}, 1, 3},
		{"a third one may be gone, too", []api.Act{tip(3, 2, 0, 9, 9), take(3, 2, 8, 9), take(4, 0, 1, 1)}, 1, -1},
		{"it may not", []api.Act{tip(3, 2, 0, 9, 9), take(3, 2, 8, 9), take(4, 0, 1, 1), take(5, 2, 1, 1)}, 1, 3},
	} {
		g := together(append(slices.Clone(either), c.acts...)...)
		if perhaps, surely, e := pile.Breaks(g); perhaps != c.perhaps || surely != c.surely || e != api.OK {
			t.Errorf("%s: %d %d %d, not %d %d", c.name, perhaps, surely, e, c.perhaps, c.surely)
		}
	}
}

// TestP5_3Room: where one more load may be tipped, and all errors in their order.
func TestP5_3Room(t *testing.T) {
	conflict := withF(func(g *api.Ground) { g.Acts[3].Mass = rng(21001, 22000) })
	empty := withF(func(g *api.Ground) { g.Acts = nil })
	mixed := sorted(api.Sort{High: 100, Dense: 100, Age: 72}, 1, tip(1, 0, 1, 30, 30), tip(2, 0, 0, 20, 20))
	mixed.Sorts = append(mixed.Sorts, tall)
	ten := apart(slices.Repeat([]api.Act{tip(1, 0, 0, 1, 1)}, 10)...)
	for _, c := range []struct {
		name             string
		g                api.Ground
		hour, sort, mass int
		want             []int
		e                api.Errno
	}{
		{"F", withF(asIs), 9, 0, 2000, []int{0}, api.OK},
		{"as much as may be", withF(asIs), 9, 0, 4000, []int{0}, api.OK},
		{"a kilogram more", withF(asIs), 9, 0, 4001, nil, api.OK},
		{"the other sort", withF(asIs), 9, 1, 2000, []int{2}, api.OK},
		{"as much of it as may be", withF(asIs), 9, 1, 9500, []int{2}, api.OK},
		{"a kilogram more of it", withF(asIs), 9, 1, 9501, nil, api.OK},
		{"at the hour of the last act", withF(asIs), 5, 0, 1, []int{0}, api.OK},
		{"at the last hour", withF(asIs), 72, 0, 1, []int{0}, api.OK},
		{"the spot 1 is far enough", withF(func(g *api.Ground) { g.Spots[1].X = 5 }), 9, 0, 20000, []int{1}, api.OK},
		{"nothing was done", empty, 0, 1, 6000, []int{0, 1, 2}, api.OK},
		{"too high on two spots", empty, 0, 1, 6001, []int{2}, api.OK},
		{"all are full", withG(func(g *api.Ground) { g.Acts[1].Mass = rng(12000, 12000) }), 9, 1, 1, nil, api.OK},
		{"of all four spots", apart(), 0, 1, 1000000, []int{0, 1, 2, 3}, api.OK},
		{"another sort lies there", apart(tip(1, 2, 1, 1, 1)), 1, 0, 1, []int{0, 1, 3}, api.OK},
		{"it is gone", apart(tip(1, 2, 1, 5, 6), take(1, 2, 6, 9)), 1, 0, 1, []int{0, 1, 2, 3}, api.OK},
		{"it may be gone", apart(tip(1, 2, 1, 5, 6), take(1, 2, 5, 9)), 1, 0, 1, []int{0, 1, 3}, api.OK},
		{"only the last sort counts", apart(tip(1, 2, 0, 1, 1), tip(1, 2, 1, 1, 1)), 1, 1, 1, []int{0, 1, 2, 3}, api.OK},
		{"all that lies there counts", mixed, 2, 0, 50, []int{0}, api.OK},
		{"a kilogram more than all", mixed, 2, 0, 51, nil, api.OK},
		{"one is in the same place", together(tip(1, 2, 0, 1, 1)), 1, 0, 1, []int{2}, api.OK},
		{"of another sort", together(tip(1, 2, 1, 1, 1)), 1, 0, 1, nil, api.OK},
		{"next to another sort", together(tip(1, 2, 0, 1, 1)), 1, 1, 1, nil, api.OK},
		{"both sorts may be anywhere", together(tip(1, 2, 1, 1, 1)), 1, 1, 1, []int{0, 1, 2, 3}, api.OK},
		{"it may be gone from there", together(tip(1, 2, 0, 5, 6), take(1, 2, 5, 6)), 1, 0, 1, []int{2}, api.OK},
		{"it is gone from there", together(tip(1, 2, 0, 5, 6), take(1, 2, 6, 6)), 1, 0, 1, []int{0, 1, 2, 3}, api.OK},
		{"rules are broken elsewhere", together(tip(1, 2, 0, 5, 6), tip(1, 3, 0, 5, 6), take(2, 2, 6, 6), take(3, 3, 6, 6)), 3, 0, 1, []int{0, 1, 2, 3}, api.OK},
		{"old scrap is no reason", withF(asIs), 72, 1, 1, []int{2}, api.OK},
		{"ten acts", ten, 1, 0, 1, []int{0, 1, 2, 3}, api.OK},
		{"too early", conflict, 4, 9, 0, nil, api.ErrOrder},
		{"hour 73", conflict, 73, 9, 0, nil, api.ErrValue},
		{"hour -1", conflict, -1, 9, 0, nil, api.ErrValue},
		{"sort 2", conflict, 9, 2, 0, nil, api.ErrUnknown},
		{"sort -1", conflict, 9, -1, 0, nil, api.ErrUnknown},
		{"mass 0", conflict, 9, 0, 0, nil, api.ErrValue},
		{"mass 1000001", conflict, 9, 0, 1000001, nil, api.ErrValue},
		{"far below", conflict, 9, 0, math.MinInt, nil, api.ErrValue},
		{"may not be", conflict, 9, 0, 1, nil, api.ErrConflict},
	} {
		if list, e := pile.Room(c.g, c.hour, c.sort, c.mass); !slices.Equal(list, c.want) || e != c.e {
			t.Errorf("%s: %v %d, not %v %d", c.name, list, e, c.want, c.e)
		}
	}
}

// TestRules: no argument is changed or kept, and no result shares memory (R2, R4).
func TestRules(t *testing.T) {
	g := withF(func(g *api.Ground) {
		g.Spots = append(make([]api.Spot, 0, 9), g.Spots...)
		g.Sorts = append(make([]api.Sort, 0, 9), g.Sorts...)
		g.Acts = append(make([]api.Act, 0, 20), g.Acts...)
	})
	kept := copyGround(g)
	masses, room := first(pile.Masses(g, 5)), first(pile.Room(g, 9, 0, 1))
	masses[0], room[0] = rng(7, 7), 99
	if first(pile.Masses(g, 5))[0] != rng(13500, 16000) || first(pile.Room(g, 9, 0, 1))[0] != 0 {
		t.Error("two results share memory")
	}
	pile.Older(g, 0, 6, 4)
	pile.Breaks(g)
	text, _ := pile.Write(g)
	if !sameGround(g, kept) {
		t.Error("an argument was changed")
	}
	if !slices.Equal(g.Spots[:9], append(kept.Spots, make([]api.Spot, 6)...)) || !slices.Equal(g.Sorts[:9], append(kept.Sorts, make([]api.Sort, 7)...)) || !slices.Equal(g.Acts[:20], append(kept.Acts, make([]api.Act, 16)...)) {
		t.Error("something was written behind an argument")
	}
	read, _, _ := pile.Read(text)
	read.Spots[0].X, read.Sorts[0].High, read.Acts[0].Hour = 99, 99, 99
	if other, _, _ := pile.Read(text); !sameGround(other, kept) || !sameGround(g, kept) {
		t.Error("a result shares memory")
	}
}

// wild returns a random number, often one at a bound or far beyond.
func wild(r *rand.Rand) int {
	list := []int{0, 0, 0, 1, 1, 1, 2, 2, 3, -1, 4, 5, 9, 10, 11, 71, 72, 73, 100, 101, 1000, 1001, 8000, 8001, 1000000, 1000001, math.MaxInt, math.MinInt, math.MaxInt32, math.MinInt32}
	return list[r.Intn(len(list))]
}

// wildGround returns a ground with some wild numbers.
func wildGround(r *rand.Rand) api.Ground {
	g := randomGround(r, great)
	for range r.Intn(3) {
		act := api.Act{Hour: wild(r), Spot: wild(r), Sort: wild(r), Mass: rng(wild(r), wild(r)), Take: r.Intn(2) == 0}
		if len(g.Acts) > 0 && r.Intn(4) > 0 {
			g.Acts[r.Intn(len(g.Acts))] = act
		} else {
			g.Acts = append(g.Acts, act)
		}
	}
	switch r.Intn(8) {
	case 0:
		g.Spots[0] = api.Spot{X: wild(r), Y: wild(r), Area: wild(r)}
	case 1:
		g.Sorts[0] = api.Sort{High: wild(r), Dense: wild(r), Fire: wild(r), Age: wild(r)}
	case 2:
		g.Spots = nil
	case 3:
		g.Sorts = nil
	}
	return g
}

// TestP1: no call panics, whatever the arguments are.
func TestP1(t *testing.T) {
	r := rand.New(rand.NewSource(1))
	for range 10000 {
		g := wildGround(r)
		pile.Check(g)
		pile.Masses(g, wild(r))
		pile.Older(g, wild(r), wild(r), wild(r))
		pile.Breaks(g)
		pile.Room(g, wild(r), wild(r), wild(r))
		pile.Write(g)
		text := make([]byte, r.Intn(40))
		for i := range text {
			text[i] = "spot 0123\nsort-tip\ntake end\xff"[r.Intn(28)]
		}
		pile.Read(string(text))
	}
}
