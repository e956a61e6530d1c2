package ship_test

import (
	"math"
	"math/rand"
	"slices"
	"strings"
	"testing"

	"swarf/api"
	"swarf/ship"
)

const a, n, u = api.Always, api.Nowhere, api.Unsure

// voyageErrors are voyages with their first errors, in the chapter's order: each one has an error that comes later, too, where there is one.
var voyageErrors = []struct {
	name   string
	change func(v *api.Voyage)
	want   api.Errno
}{
	{"as it is", asIs, api.OK},
	{"the level 2 of the sill 1 from 240 on", func(v *api.Voyage) { v.Sills[1].Levels[2].From, v.Lots[0].Worth = 240, -1 }, api.ErrOrder},
	{"without holds", func(v *api.Voyage) { v.Holds, v.Leaves = nil, -1 }, api.ErrFew},
	{"Light -1", func(v *api.Voyage) { v.Light, v.Holds = -1, nil }, api.ErrValue},
	{"Light 0", func(v *api.Voyage) { v.Light = 0 }, api.OK},
	{"Light 5000", func(v *api.Voyage) { v.Light = 5000 }, api.OK},
	{"Light 5001", func(v *api.Voyage) { v.Light, v.Holds = 5001, nil }, api.ErrValue},
	{"Under -1", func(v *api.Voyage) { v.Under, v.Holds = -1, nil }, api.ErrValue},
	{"Under 0", func(v *api.Voyage) { v.Under = 0 }, api.OK},
	{"Under 5000", func(v *api.Voyage) { v.Under = 5000 }, api.OK},
	{"Under 5001", func(v *api.Voyage) { v.Under, v.Holds = 5001, nil }, api.ErrValue},
	{"Trim -1", func(v *api.Voyage) { v.Trim, v.Holds = -1, nil }, api.ErrValue},
	{"Trim 0", func(v *api.Voyage) { v.Trim = 0 }, api.OK},
	{"Trim 5000", func(v *api.Voyage) { v.Trim = 5000 }, api.OK},
	{"Trim 5001", func(v *api.Voyage) { v.Trim, v.Holds = 5001, nil }, api.ErrValue},
	{"an empty list of holds", func(v *api.Voyage) { v.Holds = []api.Hold{} }, api.ErrFew},
	{"1 hold", func(v *api.Voyage) { v.Holds = v.Holds[:1] }, api.OK},
	{"3 holds", func(v *api.Voyage) { v.Holds = make([]api.Hold, 3) }, api.OK},
	{"4 holds", func(v *api.Voyage) { v.Holds = slices.Repeat([]api.Hold{{Room: -1}}, 4) }, api.ErrMany},
	{"Room -1", func(v *api.Voyage) { v.Holds[1].Room, v.Sills = -1, make([]api.Sill, 5) }, api.ErrValue},
	{"Room 0", func(v *api.Voyage) { v.Holds[1].Room = 0 }, api.OK},
	{"Room 5000", func(v *api.Voyage) { v.Holds[0].Room = 5000 }, api.OK},
	{"Room 5001", func(v *api.Voyage) { v.Holds[0].Room, v.Sills = 5001, make([]api.Sill, 5) }, api.ErrValue},
	{"Bow -1", func(v *api.Voyage) { v.Holds[1].Bow, v.Sills = -1, make([]api.Sill, 5) }, api.ErrValue},
	{"Bow 0", func(v *api.Voyage) { v.Holds[1].Bow = 0 }, api.OK},
	{"Bow 10000", func(v *api.Voyage) { v.Holds[0].Bow = 10000 }, api.OK},
	{"Bow 10001", func(v *api.Voyage) { v.Holds[0].Bow, v.Sills = 10001, make([]api.Sill, 5) }, api.ErrValue},
	{"Stern -1", func(v *api.Voyage) { v.Holds[1].Stern, v.Sills = -1, make([]api.Sill, 5) }, api.ErrValue},
	{"Stern 0", func(v *api.Voyage) { v.Holds[1].Stern = 0 }, api.OK},
	{"Stern 10000", func(v *api.Voyage) { v.Holds[0].Stern = 10000 }, api.OK},
	{"Stern 10001", func(v *api.Voyage) { v.Holds[0].Stern, v.Sills = 10001, make([]api.Sill, 5) }, api.ErrValue},
	{"Leaves -1", func(v *api.Voyage) { v.Leaves, v.Sills = -1, make([]api.Sill, 5) }, api.ErrValue},
	{"Leaves 0", func(v *api.Voyage) { v.Leaves = 0 }, api.OK},
	{"Leaves 2880", func(v *api.Voyage) { v.Leaves = 2880 }, api.OK},
	{"Leaves 2881", func(v *api.Voyage) { v.Leaves, v.Sills = 2881, make([]api.Sill, 5) }, api.ErrValue},
	{"no sill", func(v *api.Voyage) { v.Sills = nil }, api.OK},
	{"4 sills", func(v *api.Voyage) { v.Sills = slices.Repeat(v.Sills, 2) }, api.OK},
	{"5 sills", func(v *api.Voyage) { v.Sills = slices.Repeat([]api.Sill{sill(-1, 0)}, 5) }, api.ErrMany},
	{"the first sill first", func(v *api.Voyage) { v.Sills[0].Levels, v.Sills[1].Travel = nil, rng(-1, 0) }, api.ErrFew},
	{"Travel from -1", func(v *api.Voyage) { v.Sills[0] = sill(-1, 0) }, api.ErrValue},
	{"Travel up to -1", func(v *api.Voyage) { v.Sills[0] = sill(0, -1) }, api.ErrValue},
	{"Travel up to 2881", func(v *api.Voyage) { v.Sills[1] = sill(0, 2881) }, api.ErrValue},
	{"Travel from 2881", func(v *api.Voyage) { v.Sills[1] = sill(2881, 0) }, api.ErrValue},
	{"Travel from 0 to 2880", func(v *api.Voyage) { v.Sills[1].Travel = rng(0, 2880) }, api.OK},
	{"Travel the other way round", func(v *api.Voyage) { v.Sills[1] = sill(31, 30) }, api.ErrOrder},
	{"no level", func(v *api.Voyage) { v.Sills[1].Levels, v.Lots = nil, make([]api.Cargo, 7) }, api.ErrFew},
	{"6 levels", func(v *api.Voyage) {
		for from := 1; from < 6; from++ {
			v.Sills[0].Levels = append(v.Sills[0].Levels, level(from, 0, 0))
		}
	}, api.OK},
	{"7 levels", func(v *api.Voyage) { v.Sills[0].Levels = slices.Repeat([]api.Level{level(-1, 0, 0)}, 7) }, api.ErrMany},
	{"the first level first", func(v *api.Voyage) { v.Sills[1].Levels = []api.Level{level(0, 2, 1), level(-1, 0, 0)} }, api.ErrOrder},
	{"the first level from -1 on", func(v *api.Voyage) { v.Sills[1].Levels[0] = level(-1, 2, 1) }, api.ErrValue},
	{"the first level from 1 on", func(v *api.Voyage) { v.Sills[1].Levels[0] = level(1, -1, 1) }, api.ErrForm},
	{"the first level from 2881 on", func(v *api.Voyage) { v.Sills[1].Levels[0] = level(2881, 2, 1) }, api.ErrValue},
	{"another level from -1 on", func(v *api.Voyage) { v.Sills[1].Levels[1] = level(-1, 2, 1) }, api.ErrValue},
	{"another level from 0 on", func(v *api.Voyage) { v.Sills[1].Levels[1] = level(0, -1, 1) }, api.ErrOrder},
	{"another level from 1 on", func(v *api.Voyage) { v.Sills[1].Levels[1].From = 1 }, api.OK},
	{"a level from that of the one before on", func(v *api.Voyage) { v.Sills[1].Levels[2] = level(240, -1, 0) }, api.ErrOrder},
	{"a level from before that of the one before on", func(v *api.Voyage) { v.Sills[1].Levels[2] = level(239, -1, 0) }, api.ErrOrder},
	{"a level from 2880 on", func(v *api.Voyage) { v.Sills[1].Levels[2].From = 2880 }, api.OK},
	{"a level from 2881 on", func(v *api.Voyage) { v.Sills[1].Levels[2] = level(2881, 2, 1) }, api.ErrValue},
	{"Depth from -1", func(v *api.Voyage) { v.Sills[1].Levels[2].Depth, v.Lots = rng(-1, 0), make([]api.Cargo, 7) }, api.ErrValue},
	{"Depth up to -1", func(v *api.Voyage) { v.Sills[1].Levels[2].Depth = rng(0, -1) }, api.ErrValue},
	{"Depth up to 10001", func(v *api.Voyage) { v.Sills[1].Levels[2].Depth, v.Lots = rng(0, 10001), make([]api.Cargo, 7) }, api.ErrValue},
	{"Depth from 0 to 10000", func(v *api.Voyage) { v.Sills[1].Levels[2].Depth = rng(0, 10000) }, api.OK},
	{"Depth the other way round", func(v *api.Voyage) { v.Sills[1].Levels[2].Depth, v.Lots = rng(2, 1), make([]api.Cargo, 7) }, api.ErrOrder},
	{"no lot", func(v *api.Voyage) { v.Lots = nil }, api.OK},
	{"6 lots", func(v *api.Voyage) { v.Lots = slices.Repeat(v.Lots, 2) }, api.OK},
	{"7 lots", func(v *api.Voyage) { v.Lots = slices.Repeat([]api.Cargo{lot(-1, 0, 0)}, 7) }, api.ErrMany},
	{"the first lot first", func(v *api.Voyage) { v.Lots[0].Worth, v.Lots[1] = -1, lot(2, 1, 0) }, api.ErrValue},
	{"Tonnes from -1", func(v *api.Voyage) { v.Lots[0], v.Lots[1] = lot(-1, 0, 0), lot(2, 1, 0) }, api.ErrValue},
	{"Tonnes up to -1", func(v *api.Voyage) { v.Lots[0] = lot(0, -1, 0) }, api.ErrValue},
	{"Tonnes up to 5001", func(v *api.Voyage) { v.Lots[0], v.Lots[1] = lot(0, 5001, 0), lot(2, 1, 0) }, api.ErrValue},
	{"Tonnes from 0 to 5000", func(v *api.Voyage) { v.Lots[0].Tonnes = rng(0, 5000) }, api.OK},
	{"Tonnes the other way round", func(v *api.Voyage) { v.Lots[2] = lot(2, 1, -1) }, api.ErrOrder},
	{"Worth -1", func(v *api.Voyage) { v.Lots[2].Worth = -1 }, api.ErrValue},
	{"Worth 0", func(v *api.Voyage) { v.Lots[2].Worth = 0 }, api.OK},
	{"Worth 100000", func(v *api.Voyage) { v.Lots[2].Worth = 100000 }, api.OK},
	{"Worth 100001", func(v *api.Voyage) { v.Lots[2].Worth = 100001 }, api.ErrValue},
}

// TestP7_1Check: Check, and all functions that return its error first.
func TestP7_1Check(t *testing.T) {
	for _, c := range voyageErrors {
		v := withV(c.change)
		if e := ship.Check(v); e != c.want {
			t.Errorf("%s: Check %d, not %d", c.name, e, c.want)
		}
		if c.want == api.OK {
			continue
		}
		wrong := make([]int, 9)
		e1 := ship.CheckStowage(v, wrong)
		bow, stern, e2 := ship.Drafts(v, wrong)
		always, apart, e3 := ship.Level(v, wrong)
		verdict, over, e4 := ship.Sail(v, wrong)
		stowage, worth, e5 := ship.Best(v)
		text, e6 := ship.Write(v)
		for i, e := range []api.Errno{e1, e2, e3, e4, e5, e6} {
			if e != c.want {
				t.Errorf("%s: function %d returns %d, not %d", c.name, i, e, c.want)
			}
		}
		none := rng(0, 0)
		if bow != none || stern != none || always || apart != none || verdict != 0 || over != nil || stowage != nil || worth != 0 || text != "" {
			t.Errorf("%s: results beside an error", c.name)
		}
	}
}

// TestP7_1Stowage: stowages and their first errors, also of all functions that take one.
func TestP7_1Stowage(t *testing.T) {
	for _, c := range []struct {
		name    string
		v       api.Voyage
		stowage []int
		want    api.Errno
	}{
		{"A", voyageV(), []int{0, 1, -1}, api.OK},
		{"nothing in holds", voyageV(), []int{-1, -1, -1}, api.OK},
		{"all in one hold", voyageV(), []int{0, 0, 0}, api.ErrLimit},
		{"too much in the hold 0", voyageV(), []int{0, 0, 1}, api.ErrLimit},
		{"too much in the hold 1", voyageV(), []int{1, 1, 0}, api.ErrLimit},
		{"just as much", withV(func(v *api.Voyage) { v.Holds[0].Room = 420 }), []int{0, 0, 1}, api.OK},
		{"a tonne too much", withV(func(v *api.Voyage) { v.Holds[0].Room = 419 }), []int{0, 0, 1}, api.ErrLimit},
		{"much stays behind", withV(func(v *api.Voyage) { v.Lots[2].Tonnes = rng(0, 5000) }), []int{0, 1, -1}, api.OK},
		{"light perhaps", withV(func(v *api.Voyage) { v.Lots[2].Tonnes = rng(0, 401) }), []int{-1, -1, 1}, api.ErrLimit},
		{"no room", withV(func(v *api.Voyage) { v.Holds[1].Room = 0 }), []int{0, -1, 1}, api.ErrLimit},
		{"nothing needs no room", withV(func(v *api.Voyage) { v.Holds[1].Room, v.Lots[2].Tonnes = 0, rng(0, 0) }), []int{0, -1, 1}, api.OK},
		{"hold 2", voyageV(), []int{0, 2, 0}, api.ErrUnknown},
		{"hold -2", voyageV(), []int{0, 0, -2}, api.ErrUnknown},
		{"far above", voyageV(), []int{math.MaxInt, 0, 0}, api.ErrUnknown},
		{"far below", voyageV(), []int{0, 0, math.MinInt}, api.ErrUnknown},
		{"hold 2 of three", withV(func(v *api.Voyage) { v.Holds = append(v.Holds, v.Holds[0]) }), []int{0, 2, 2}, api.OK},
		{"too few numbers", voyageV(), []int{0, 2}, api.ErrForm},
		{"too many numbers", voyageV(), []int{0, 2, 0, 0}, api.ErrForm},
		{"no numbers", voyageV(), nil, api.ErrForm},
		{"a number without lots", withV(func(v *api.Voyage) { v.Lots = nil }), []int{-1}, api.ErrForm},
		{"no numbers without lots", withV(func(v *api.Voyage) { v.Lots = nil }), nil, api.OK},
		{"an empty list without lots", withV(func(v *api.Voyage) { v.Lots = nil }), []int{}, api.OK},
		{"the greatest numbers", fullest(), []int{0, 1, 2, -1, -1, -1}, api.OK},
	} {
		e1 := ship.CheckStowage(c.v, c.stowage)
		bow, stern, e2 := ship.Drafts(c.v, c.stowage)
		always, apart, e3 := ship.Level(c.v, c.stowage)
		verdict, over, e4 := ship.Sail(c.v, c.stowage)
		for i, e := range []api.Errno{e1, e2, e3, e4} {
			if e != c.want {
				t.Errorf("%s: function %d returns %d, not %d", c.name, i, e, c.want)
			}
		}
		none := rng(0, 0)
		if c.want != api.OK && (bow != none || stern != none || always || apart != none || verdict != 0 || over != nil) {
			t.Errorf("%s: results beside an error", c.name)
		}
	}
}

// TestP7_1Drafts: how deep the ends may lie, and whether they are always level enough.
func TestP7_1Drafts(t *testing.T) {
	trim := func(trim int) api.Voyage { return withV(func(v *api.Voyage) { v.Trim = trim }) }
	for _, c := range []struct {
		name              string
		v                 api.Voyage
		stowage           []int
		bow, stern, apart api.Range
		always            bool
	}{
		{"A", voyageV(), []int{0, 1, -1}, rng(1290000, 1340000), rng(1260000, 1310000), rng(0, 60000), true},
		{"Trim 59", trim(59), []int{0, 1, -1}, rng(1290000, 1340000), rng(1260000, 1310000), rng(0, 60000), false},
		{"Trim 60", trim(60), []int{0, 1, -1}, rng(1290000, 1340000), rng(1260000, 1310000), rng(0, 60000), true},
		{"A turned, Trim 59", trim(59), []int{1, 0, -1}, rng(1260000, 1310000), rng(1290000, 1340000), rng(-60000, 0), false},
		{"A turned, Trim 60", trim(60), []int{1, 0, -1}, rng(1260000, 1310000), rng(1290000, 1340000), rng(-60000, 0), true},
		{"one lot", voyageV(), []int{0, -1, -1}, rng(1200000, 1240000), rng(900000, 910000), rng(300000, 330000), false},
		{"one lot, Trim 329", trim(329), []int{0, -1, -1}, rng(1200000, 1240000), rng(900000, 910000), rng(300000, 330000), false},
		{"one lot, Trim 330", trim(330), []int{0, -1, -1}, rng(1200000, 1240000), rng(900000, 910000), rng(300000, 330000), true},
		{"one lot turned", voyageV(), []int{1, -1, -1}, rng(900000, 910000), rng(1200000, 1240000), rng(-330000, -300000), false},
		{"one lot turned, Trim 330", trim(330), []int{1, -1, -1}, rng(900000, 910000), rng(1200000, 1240000), rng(-330000, -300000), true},
		{"nothing", trim(0), []int{-1, -1, -1}, rng(800000, 800000), rng(800000, 800000), rng(0, 0), true},
		{"level by its holds", withV(func(v *api.Voyage) { v.Trim, v.Holds[0] = 0, api.Hold{Room: 400, Bow: 7, Stern: 7} }), []int{0, -1, -1}, rng(801400, 801540), rng(801400, 801540), rng(0, 0), true},
		{"lots are not as heavy as each other", withV(func(v *api.Voyage) { v.Lots[1].Tonnes = rng(200, 220) }), []int{0, 1, -1}, rng(1300000, 1350000), rng(1300000, 1350000), rng(-30000, 30000), true},
		{"by a thousandth", withV(func(v *api.Voyage) {
			v.Trim, v.Holds[0], v.Lots[0].Tonnes = 0, api.Hold{Room: 400, Bow: 1, Stern: 0}, rng(0, 1)
		}), []int{0, -1, -1}, rng(800000, 800001), rng(800000, 800000), rng(0, 1), false},
		{"the greatest numbers", fullest(), []int{0, 1, 2, -1, -1, -1}, rng(155000000, 155000000), rng(155000000, 155000000), rng(0, 0), true},
	} {
		bow, stern, e := ship.Drafts(c.v, c.stowage)
		if bow != c.bow || stern != c.stern || e != api.OK {
			t.Errorf("%s: Drafts %v %v %d, not %v %v", c.name, bow, stern, e, c.bow, c.stern)
		}
		always, apart, e := ship.Level(c.v, c.stowage)
		if always != c.always || apart != c.apart || e != api.OK {
			t.Errorf("%s: Level %v %v %d, not %v %v", c.name, always, apart, e, c.always, c.apart)
		}
	}
}

// minutes returns a list of ranges of both numbers of each pair.
func minutes(pairs ...int) []api.Range {
	var list []api.Range
	for at := 0; at < len(pairs); at += 2 {
		list = append(list, rng(pairs[at], pairs[at+1]))
	}
	return list
}

// TestP7_2Sail: whether the barge passes, and when it may be over the sills that it always passes. With A it needs 1490 to 1540 millimetres of water.
func TestP7_2Sail(t *testing.T) {
	deep := func(low, high int) api.Voyage {
		return withV(func(v *api.Voyage) { v.Sills[0].Levels[0].Depth = rng(low, high) })
	}
	leaves := func(minute int, sills ...api.Sill) api.Voyage {
		v := through(sills...)
		v.Leaves = minute
		return v
	}
	still := func(low, high int) api.Sill { return sill(low, high, level(0, 1600, 1600)) }
	for _, c := range []struct {
		name    string
		v       api.Voyage
		verdict int
		over    []api.Range
	}{
		{"V", voyageV(), a, minutes(90, 100, 240, 250)},
		{"low water at the sill 0", deep(1500, 1550), u, nil},
		{"water that is always enough", deep(1540, 1550), a, minutes(90, 100, 240, 250)},
		{"a millimetre too low perhaps", deep(1539, 1550), u, nil},
		{"enough if it is light", deep(1480, 1490), u, nil},
		{"never enough", deep(1480, 1489), n, nil},
		{"no sill", through(), a, nil},
		{"one sill", through(still(0, 0)), a, minutes(60, 60)},
		{"stopped by the first one, but not by the next", through(sill(0, 0, level(0, 0, 0)), still(0, 0)), n, nil},
		{"stopped by the second one", through(still(1, 2), sill(0, 0, level(0, 1489, 1489))), n, minutes(61, 62)},
		{"perhaps stopped by the second one", through(still(1, 2), sill(0, 0, level(0, 1489, 1490))), u, minutes(61, 62)},
		{"perhaps by the first one, surely by the second one", through(sill(0, 0, level(0, 1489, 1490)), sill(0, 0, level(0, 1489, 1489))), n, nil},
		{"perhaps by the first one, not by the second one", through(sill(0, 0, level(0, 1489, 1490)), still(0, 0)), u, nil},
		{"ways add up", through(still(1, 2), still(10, 20), still(100, 200), still(0, 0)), a, minutes(61, 62, 71, 82, 171, 282, 171, 282)},
		{"waits add up", through(sill(1, 2, level(0, 0, 0), level(70, 1540, 1540)), still(10, 20)), a, minutes(70, 70, 80, 90)},
		{"the water comes later", through(sill(0, 10, level(0, 0, 0), level(65, 1600, 1600))), a, minutes(65, 70)},
		{"the water comes when it does", through(sill(5, 5, level(0, 0, 0), level(65, 1600, 1600))), a, minutes(65, 65)},
		{"the water goes when it comes", through(sill(0, 5, level(0, 1600, 1600), level(65, 0, 0))), u, nil},
		{"the water goes after it came", through(sill(0, 4, level(0, 1600, 1600), level(65, 0, 0))), a, minutes(60, 64)},
		{"the next tide", through(sill(0, 10, level(0, 1600, 1600), level(65, 0, 0), level(90, 1600, 1600))), a, minutes(60, 90)},
		{"a tide that is too low", through(sill(0, 10, level(0, 0, 0), level(65, 1489, 1489), level(90, 1540, 1600), level(95, 1600, 1600))), a, minutes(90, 90)},
		{"a tide that is too low perhaps", through(sill(0, 10, level(0, 0, 0), level(65, 1489, 1490), level(90, 1539, 1600), level(95, 1600, 1600))), a, minutes(65, 95)},
		{"all levels, up to the last minute", through(sill(0, 0, level(0, 0, 1), level(2876, 0, 2), level(2877, 0, 3), level(2878, 0, 4), level(2879, 0, 5), level(2880, 1540, 1540))), a, minutes(2880, 2880)},
		{"in the last minute", leaves(2840, still(30, 40)), a, minutes(2870, 2880)},
		{"perhaps a minute too late", leaves(2841, still(30, 40)), u, nil},
		{"perhaps in the last minute", leaves(2850, still(30, 40)), u, nil},
		{"a minute too late", leaves(2851, still(30, 40)), n, nil},
		{"over one, too late for the next one", leaves(2880, still(0, 0), still(1, 1)), n, minutes(2880, 2880)},
		{"far too late", leaves(2880, still(2880, 2880), still(2880, 2880), still(2880, 2880), still(2880, 2880)), n, nil},
		{"a tide that is missed perhaps", withV(func(v *api.Voyage) { v.Sills[1].Travel = rng(120, 380) }), u, minutes(90, 100)},
		{"a tide that is just not missed", withV(func(v *api.Voyage) { v.Sills[1].Travel = rng(120, 379) }), a, minutes(90, 100, 240, 479)},
		{"a tide that is just missed", withV(func(v *api.Voyage) { v.Sills[1].Travel = rng(390, 400) }), n, minutes(90, 100)},
		{"no water kept free", withV(func(v *api.Voyage) { v.Under, v.Sills = 0, []api.Sill{sill(0, 0, level(0, 1340, 1340))} }), a, minutes(60, 60)},
		{"not even", withV(func(v *api.Voyage) { v.Trim = 0 }), a, minutes(90, 100, 240, 250)},
		{"the stern lies deeper", withV(func(v *api.Voyage) {
			v.Holds[0], v.Holds[1] = v.Holds[1], v.Holds[0]
			v.Sills = []api.Sill{sill(0, 0, level(0, 1539, 1600))}
		}), u, nil},
	} {
		verdict, over, e := ship.Sail(c.v, []int{0, 1, -1})
		if verdict != c.verdict || !slices.Equal(over, c.over) || e != api.OK {
			t.Errorf("%s: %d %v %d, not %d %v", c.name, verdict, over, e, c.verdict, c.over)
		}
	}
}

// TestP7_2Loads: what the same sills do to other stowages.
func TestP7_2Loads(t *testing.T) {
	for _, c := range []struct {
		name    string
		v       api.Voyage
		stowage []int
		verdict int
		over    []api.Range
	}{
		{"too deep by the bow", voyageV(), []int{0, -1, 0}, n, nil},
		{"too deep by the stern", voyageV(), []int{1, -1, 1}, n, nil},
		{"empty", voyageV(), []int{-1, -1, -1}, a, minutes(90, 100, 210, 250)},
		{"a thousandth too deep", withV(func(v *api.Voyage) {
			v.Holds[0].Bow, v.Lots[0].Tonnes, v.Sills = 1, rng(0, 1), []api.Sill{sill(0, 0, level(0, 1000, 1000))}
		}), []int{0, -1, -1}, u, nil},
		{"the greatest numbers", fullest(), []int{-1, -1, -1, -1, -1, -1}, n, nil},
		{"the deepest water", withV(func(v *api.Voyage) {
			v.Light, v.Under, v.Sills = 5000, 5000, []api.Sill{sill(0, 0, level(0, 10000, 10000))}
		}), []int{-1, -1, -1}, a, minutes(60, 60)},
	} {
		verdict, over, e := ship.Sail(c.v, c.stowage)
		if verdict != c.verdict || !slices.Equal(over, c.over) || e != api.OK {
			t.Errorf("%s: %d %v %d, not %d %v", c.name, verdict, over, e, c.verdict, c.over)
		}
	}
}

// TestP7_3Best: the stowage that carries the most worth, of several the first one, or that there is none.
func TestP7_3Best(t *testing.T) {
	water := func(low int) api.Voyage {
		return withV(func(v *api.Voyage) { v.Sills[0].Levels[0].Depth = rng(low, 1650) })
	}
	for _, c := range []struct {
		name  string
		v     api.Voyage
		want  []int
		worth int
	}{
		{"V", voyageV(), []int{0, -1, 1}, 95},
		{"it has to lie more level", withV(func(v *api.Voyage) { v.Trim = 104 }), []int{0, 1, -1}, 90},
		{"it has to lie quite level", withV(func(v *api.Voyage) { v.Trim = 0 }), []int{-1, -1, -1}, 0},
		{"no sill", through(), []int{0, 1, 0}, 135},
		{"an empty barge is stopped", water(999), nil, -1},
		{"only an empty barge is not stopped", water(1000), []int{-1, -1, -1}, 0},
		{"of two that are worth as much the first one", withV(func(v *api.Voyage) { v.Lots[1].Worth = 50 }), []int{0, 1, -1}, 100},
		{"no lot", withV(func(v *api.Voyage) { v.Lots = nil }), nil, 0},
		{"no lot, and an empty barge is stopped", withV(func(v *api.Voyage) { v.Lots, v.Sills[0].Levels[0].Depth = nil, rng(999, 999) }), nil, -1},
		{"nothing is worth anything", withV(func(v *api.Voyage) { v.Lots[0].Worth, v.Lots[1].Worth, v.Lots[2].Worth = 0, 0, 0 }), []int{-1, -1, -1}, 0},
		{"with a lot it may miss the tide", withV(func(v *api.Voyage) { v.Sills[1].Travel.Max = 380 }), []int{-1, -1, -1}, 0},
		{"it may come too late", withV(func(v *api.Voyage) { v.Leaves = 2841 }), nil, -1},
		{"a lot that may be too heavy", withV(func(v *api.Voyage) { v.Lots[0].Tonnes.Max = 401 }), []int{-1, 0, 1}, 85},
		{"the last hold", withV(func(v *api.Voyage) {
			v.Sills, v.Holds[0].Room = nil, 0
			v.Holds = append(v.Holds, api.Hold{Room: 600, Bow: 1, Stern: 1})
		}), []int{2, 1, 2}, 135},
		{"lots that lower nothing", api.Voyage{Holds: []api.Hold{{Room: 5}}, Sills: []api.Sill{sill(0, 0, level(0, 0, 0))}, Lots: []api.Cargo{lot(1, 5, 3), lot(0, 0, 1), lot(0, 1, 2)}}, []int{0, 0, -1}, 4},
		{"nothing may lie deeper", api.Voyage{Holds: []api.Hold{{Room: 5, Bow: 1, Stern: 1}}, Sills: []api.Sill{sill(0, 0, level(0, 0, 0))}, Lots: []api.Cargo{lot(0, 5, 3), lot(0, 0, 1), lot(0, 1, 2)}}, []int{-1, 0, -1}, 1},
		{"the greatest numbers", withV(func(v *api.Voyage) { *v = fullest(); v.Sills = nil }), []int{-1, -1, -1, 0, 1, 2}, 300000},
		{"the greatest numbers are stopped", fullest(), nil, -1},
	} {
		if stowage, worth, e := ship.Best(c.v); !slices.Equal(stowage, c.want) || worth != c.worth || e != api.OK {
			t.Errorf("%s: %v %d %d, not %v %d", c.name, stowage, worth, e, c.want, c.worth)
		}
	}
}

// roomy returns a copy of a list with zeros behind it.
func roomy[T any](list []T) []T { return append(make([]T, 0, 9), list...) }

// isRoomy tells whether a list that was roomy still has its elements, and zeros behind it.
func isRoomy[T comparable](list, elements []T) bool {
	return slices.Equal(list[:9], append(slices.Clone(elements), make([]T, 9-len(elements))...))
}

// TestRules: no argument is changed or kept, and no result shares memory (R2, R4).
func TestRules(t *testing.T) {
	v := voyageV()
	v.Holds, v.Lots = roomy(v.Holds), roomy(v.Lots)
	v.Sills = append(make([]api.Sill, 0, 9), v.Sills...)
	for i := range v.Sills {
		v.Sills[i].Levels = roomy(v.Sills[i].Levels)
	}
	stowage := roomy([]int{0, 1, -1})
	for range 2 {
		ship.Check(v)
		ship.CheckStowage(v, stowage)
		ship.Drafts(v, stowage)
		ship.Level(v, stowage)
		_, over, _ := ship.Sail(v, stowage)
		best, _, _ := ship.Best(v)
		text, _ := ship.Write(v)
		read, _, _ := ship.Read(text)
		if !slices.Equal(over, minutes(90, 100, 240, 250)) || !slices.Equal(best, []int{0, -1, 1}) || !sameVoyage(read, v) {
			t.Error("two results share memory", over, best, read)
		}
		over[0], best[0], read.Holds[0], read.Lots[0] = rng(1, 2), 9, api.Hold{}, api.Cargo{}
		read.Sills[0].Travel, read.Sills[1].Levels[0] = rng(1, 2), level(1, 2, 3)
		if other := append(read.Sills[0].Levels, level(7, 8, 9)); read.Sills[1].Levels[0] == other[1] {
			t.Error("two results share memory")
		}
	}
	old := voyageV()
	if !sameVoyage(v, old) || !isRoomy(v.Holds, old.Holds) || !isRoomy(v.Lots, old.Lots) || !isRoomy(stowage, []int{0, 1, -1}) {
		t.Error("an argument was changed")
	}
	for i, s := range v.Sills {
		if !isRoomy(s.Levels, old.Sills[i].Levels) || v.Sills[:9][2+i].Levels != nil {
			t.Error("something was written behind the levels of", i)
		}
	}
}

// wild returns a random number, often one at a bound or far beyond.
func wild(r *rand.Rand) int {
	numbers := []int{0, 0, 0, 1, 1, 1, 2, 2, 3, -1, -1, -2, 5000, 5001, 2880, 2881, 10000, 10001, 100000, 100001, math.MaxInt, math.MinInt, math.MaxInt32, math.MinInt32}
	return numbers[r.Intn(len(numbers))]
}

// wildVoyage returns a voyage with some wild numbers.
func wildVoyage(r *rand.Rand) api.Voyage {
	v := anyVoyage(r)
	numbers := []*int{&v.Light, &v.Under, &v.Trim, &v.Leaves}
	for i := range v.Holds {
		numbers = append(numbers, &v.Holds[i].Room, &v.Holds[i].Bow, &v.Holds[i].Stern)
	}
	for _, known := range open(&v) {
		numbers = append(numbers, &known.Min, &known.Max)
	}
	for i := range v.Sills {
		for j := range v.Sills[i].Levels {
			numbers = append(numbers, &v.Sills[i].Levels[j].From)
		}
	}
	for i := range v.Lots {
		numbers = append(numbers, &v.Lots[i].Worth)
	}
	for range r.Intn(3) {
		*numbers[r.Intn(len(numbers))] = wild(r)
	}
	switch r.Intn(12) {
	case 0:
		v.Holds = make([]api.Hold, r.Intn(6))
	case 1:
		v.Sills = make([]api.Sill, r.Intn(7))
	case 2:
		v.Lots = make([]api.Cargo, r.Intn(9))
	}
	return v
}

// TestP1: no call panics, whatever the arguments are.
func TestP1(t *testing.T) {
	r := rand.New(rand.NewSource(1))
	words := []string{"barge", "hold", "sill", "level", "lot", "end", " ", " 0", " 1", " 1 1", " 0 0 0", "\n", "\n", "\xff"}
	for range 6000 {
		v := wildVoyage(r)
		stowage := anyStowage(r, anyVoyage(r))
		for i := range stowage {
			if r.Intn(6) == 0 {
				stowage[i] = wild(r)
			}
		}
		ship.Check(v)
		ship.CheckStowage(v, stowage)
		ship.Drafts(v, stowage)
		ship.Level(v, stowage)
		ship.Sail(v, stowage)
		ship.Best(v)
		ship.Write(v)
		var text strings.Builder
		for range r.Intn(30) {
			text.WriteString(words[r.Intn(len(words))])
		}
		ship.Read("barge 0 0 0 0\n" + text.String())
		ship.Read(text.String())
	}
}
