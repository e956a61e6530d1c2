package ship_test

import (
	"iter"
	"math/rand"
	"slices"
	"testing"

	"swarf/api"
	"swarf/ship"
)

// rng returns a range.
func rng(low, high int) api.Range { return api.Range{Min: low, Max: high} }

// level, sill and lot return one each.
func level(from, low, high int) api.Level { return api.Level{From: from, Depth: rng(low, high)} }

func sill(low, high int, levels ...api.Level) api.Sill {
	return api.Sill{Travel: rng(low, high), Levels: levels}
}

func lot(low, high, worth int) api.Cargo { return api.Cargo{Tonnes: rng(low, high), Worth: worth} }

// voyageV is V of the chapter's examples.
func voyageV() api.Voyage {
	return api.Voyage{
		Light: 800, Under: 200, Trim: 300, Leaves: 60,
		Holds: []api.Hold{{Room: 400, Bow: 2000, Stern: 500}, {Room: 400, Bow: 500, Stern: 2000}},
		Sills: []api.Sill{
			sill(30, 40, level(0, 1600, 1650)),
			sill(120, 150, level(0, 1300, 1350), level(240, 1600, 1650), level(480, 1200, 1250)),
		},
		Lots: []api.Cargo{lot(200, 220, 50), lot(180, 200, 40), lot(150, 150, 45)},
	}
}

// withV returns V with a change.
func withV(change func(v *api.Voyage)) api.Voyage {
	v := voyageV()
	change(&v)
	return v
}

// asIs changes nothing.
func asIs(v *api.Voyage) {}

// through returns V with these sills alone.
func through(sills ...api.Sill) api.Voyage {
	return withV(func(v *api.Voyage) { v.Sills = sills })
}

// fullest is a voyage with the greatest numbers that there may be.
func fullest() api.Voyage {
	v := api.Voyage{Light: 5000, Under: 5000, Trim: 5000, Leaves: 2880}
	v.Holds = slices.Repeat([]api.Hold{{Room: 5000, Bow: 10000, Stern: 10000}}, 3)
	for range 4 {
		s := sill(2880, 2880, level(0, 10000, 10000))
		for from := 2876; from <= 2880; from++ {
			s.Levels = append(s.Levels, level(from, 10000, 10000))
		}
		v.Sills = append(v.Sills, s)
	}
	v.Lots = slices.Repeat([]api.Cargo{lot(5000, 5000, 100000)}, 6)
	return v
}

// copyVoyage returns a copy that shares no memory.
func copyVoyage(v api.Voyage) api.Voyage {
	v.Holds, v.Sills, v.Lots = slices.Clone(v.Holds), slices.Clone(v.Sills), slices.Clone(v.Lots)
	for at := range v.Sills {
		v.Sills[at].Levels = slices.Clone(v.Sills[at].Levels)
	}
	return v
}

// sameVoyage tells whether two voyages are equal.
func sameVoyage(a, b api.Voyage) bool {
	isSame := a.Light == b.Light && a.Under == b.Under && a.Trim == b.Trim && a.Leaves == b.Leaves
	return isSame && slices.Equal(a.Holds, b.Holds) && slices.Equal(a.Lots, b.Lots) && slices.EqualFunc(a.Sills, b.Sills, func(x, y api.Sill) bool {
		return x.Travel == y.Travel && slices.Equal(x.Levels, y.Levels)
	})
}

// isEmpty tells whether nothing is said of a voyage.
func isEmpty(v api.Voyage) bool { return sameVoyage(v, api.Voyage{}) }

// between returns a random number from low to high.
func between(r *rand.Rand, low, high int) int { return low + r.Intn(high-low+1) }

// within returns a random range from low to high, at most so wide.
func within(r *rand.Rand, low, high, wide int) api.Range {
	from := between(r, low, high)
	return rng(from, min(high, from+r.Intn(wide+1)))
}

// has tells whether n is in a range; inside whether all of a is in b.
func has(r api.Range, n int) bool { return r.Min <= n && n <= r.Max }

func inside(a, b api.Range) bool { return b.Min <= a.Min && a.Max <= b.Max }

// open returns all ranges of a voyage: what is not known of it.
func open(v *api.Voyage) []*api.Range {
	var all []*api.Range
	for i := range v.Lots {
		all = append(all, &v.Lots[i].Tonnes)
	}
	for i := range v.Sills {
		all = append(all, &v.Sills[i].Travel)
		for j := range v.Sills[i].Levels {
			all = append(all, &v.Sills[i].Levels[j].Depth)
		}
	}
	return all
}

// countTruths returns how many truths a voyage has.
func countTruths(v api.Voyage) int {
	count := 1
	for _, r := range open(&v) {
		count *= r.Max - r.Min + 1
	}
	return count
}

// truths hands out all truths of a voyage, as voyages whose ranges are one number each.
func truths(v api.Voyage) iter.Seq[api.Voyage] {
	v = copyVoyage(v)
	all := open(&v)
	return func(yield func(api.Voyage) bool) {
		var fix func(at int) bool
		fix = func(at int) bool {
			if at == len(all) {
				return yield(v)
			}
			known := *all[at]
			defer func() { *all[at] = known }()
			for n := known.Min; n <= known.Max; n++ {
				*all[at] = rng(n, n)
				if !fix(at + 1) {
					return false
				}
			}
			return true
		}
		fix(0)
	}
}

// anyTruth returns a random truth of a voyage; many numbers are the first or the last one of their range.
func anyTruth(r *rand.Rand, v api.Voyage) api.Voyage {
	v = copyVoyage(v)
	for _, known := range open(&v) {
		n := between(r, known.Min, known.Max)
		switch r.Intn(4) {
		case 0:
			n = known.Min
		case 1:
			n = known.Max
		}
		*known = rng(n, n)
	}
	return v
}

// trip is how deep the ends lie in a truth, and in which minutes the barge passes sills.
type trip struct {
	bow, stern int
	passed     []int
}

// isPassed tells whether the barge passes all sills of a voyage.
func (x trip) isPassed(v api.Voyage) bool { return len(x.passed) == len(v.Sills) }

// isLevel tells whether the barge is level enough.
func (x trip) isLevel(v api.Voyage) bool {
	return x.bow-x.stern <= 1000*v.Trim && x.stern-x.bow <= 1000*v.Trim
}

// depthAt returns how deep the water over a sill is, in a truth.
func depthAt(s api.Sill, minute int) int {
	at := 0
	for at+1 < len(s.Levels) && s.Levels[at+1].From <= minute {
		at++
	}
	return s.Levels[at].Depth.Min
}

// sailed returns the trip of a barge in a truth: it is loaded tonne by tonne, and waits minute by minute.
func sailed(v api.Voyage, stowage []int) trip {
	x := trip{bow: 1000 * v.Light, stern: 1000 * v.Light}
	for i, hold := range stowage {
		for range v.Lots[i].Tonnes.Min {
			if hold >= 0 {
				x.bow, x.stern = x.bow+v.Holds[hold].Bow, x.stern+v.Holds[hold].Stern
			}
		}
	}
	needs := max(x.bow, x.stern) + 1000*v.Under
	minute := v.Leaves
	for _, s := range v.Sills {
		minute += s.Travel.Min
		for minute <= 2880 && 1000*depthAt(s, minute) < needs {
			minute++
		}
		if minute > 2880 {
			break
		}
		x.passed = append(x.passed, minute)
	}
	return x
}

// told is all that is told of a stowage.
type told struct {
	bow, stern, apart api.Range
	always            bool
	verdict           int
	over              []api.Range
}

// same tells whether the same is told.
func (a told) same(b told) bool {
	isSame := a.bow == b.bow && a.stern == b.stern && a.apart == b.apart
	return isSame && a.always == b.always && a.verdict == b.verdict && slices.Equal(a.over, b.over)
}

// tell returns what the program tells of a valid stowage.
func tell(t *testing.T, v api.Voyage, stowage []int) told {
	t.Helper()
	var x told
	var e1, e2, e3 api.Errno
	x.bow, x.stern, e1 = ship.Drafts(v, stowage)
	x.always, x.apart, e2 = ship.Level(v, stowage)
	x.verdict, x.over, e3 = ship.Sail(v, stowage)
	if e1 != api.OK || e2 != api.OK || e3 != api.OK {
		t.Fatalf("%v, %v: %d %d %d", v, stowage, e1, e2, e3)
	}
	return x
}

// widen returns the range with one more number.
func widen(r api.Range, n int) api.Range { return rng(min(r.Min, n), max(r.Max, n)) }

// known returns what is so in all truths.
func known(v api.Voyage, stowage []int) told {
	var x told
	all, pass := 0, 0
	for truth := range truths(v) {
		trip := sailed(truth, stowage)
		if all == 0 {
			x.bow, x.stern, x.always = rng(trip.bow, trip.bow), rng(trip.stern, trip.stern), true
			x.apart = rng(trip.bow-trip.stern, trip.bow-trip.stern)
			for _, minute := range trip.passed {
				x.over = append(x.over, rng(minute, minute))
			}
		}
		x.bow, x.stern, x.apart = widen(x.bow, trip.bow), widen(x.stern, trip.stern), widen(x.apart, trip.bow-trip.stern)
		x.always = x.always && trip.isLevel(v)
		x.over = x.over[:min(len(x.over), len(trip.passed))]
		for i := range x.over {
			x.over[i] = widen(x.over[i], trip.passed[i])
		}
		all++
		if trip.isPassed(v) {
			pass++
		}
	}
	x.verdict = verdict(all, pass)
	return x
}

// verdict returns the verdict on what is so in some of all truths.
func verdict(all, some int) int {
	switch some {
	case all:
		return api.Always
	case 0:
		return api.Nowhere
	}
	return api.Unsure
}

// fits tells whether each hold has room for its lots, as heavy as they may be.
func fits(v api.Voyage, stowage []int) bool {
	for at, hold := range v.Holds {
		sum := 0
		for i, in := range stowage {
			if in == at {
				sum += v.Lots[i].Tonnes.Max
			}
		}
		if sum > hold.Room {
			return false
		}
	}
	return true
}

// allStowages returns all valid stowages of a voyage, in lexicographic order.
func allStowages(v api.Voyage) [][]int {
	lists := [][]int{nil}
	for range v.Lots {
		var longer [][]int
		for _, list := range lists {
			for hold := -1; hold < len(v.Holds); hold++ {
				longer = append(longer, append(slices.Clone(list), hold))
			}
		}
		lists = longer
	}
	return slices.DeleteFunc(lists, func(list []int) bool { return !fits(v, list) })
}

// anyStowage returns a random valid stowage.
func anyStowage(r *rand.Rand, v api.Voyage) []int {
	var stowage []int
	for range v.Lots {
		stowage = append(stowage, between(r, -1, len(v.Holds)-1))
	}
	for !fits(v, stowage) {
		stowage[r.Intn(len(stowage))] = -1
	}
	return stowage
}

// worth returns what the lots in holds are worth together.
func worth(v api.Voyage, stowage []int) int {
	sum := 0
	for i, hold := range stowage {
		if hold >= 0 {
			sum += v.Lots[i].Worth
		}
	}
	return sum
}

// size is how great a random voyage is at most, from which minute on it is, and how wide its ranges are.
type size struct {
	light, rate, rateStep, depth, tonnes, worth int
	start, way, wide                            int
}

// Small voyages are at the end of the clock, and many barges need just as much water as there is; great ones take all day.
var (
	small = size{light: 3, rate: 4, rateStep: 500, depth: 9, tonnes: 3, worth: 3, start: 2866, way: 4, wide: 2}
	great = size{light: 2500, rate: 10000, rateStep: 1, depth: 6500, tonnes: 800, worth: 100000, start: 0, way: 700, wide: 150}
)

// randomVoyage returns a random valid voyage.
func randomVoyage(r *rand.Rand, s size) api.Voyage {
	v := api.Voyage{Light: r.Intn(s.light + 1), Under: r.Intn(s.light/2 + 1), Trim: r.Intn(s.light + 1)}
	for range between(r, 1, 3) {
		most := between(r, 0, s.rate)
		rates := api.Hold{Room: between(r, 0, 5*s.tonnes), Bow: s.rateStep * r.Intn(most+1), Stern: s.rateStep * r.Intn(most+1)}
		v.Holds = append(v.Holds, rates)
	}
	v.Leaves = s.start + r.Intn(s.way)
	for range r.Intn(5) {
		v.Sills = append(v.Sills, randomSill(r, s))
	}
	for range r.Intn(7) {
		v.Lots = append(v.Lots, api.Cargo{Tonnes: within(r, 0, s.tonnes, s.wide), Worth: r.Intn(s.worth + 1)})
	}
	return v
}

// randomSill returns a random sill, at which the water rises and falls from the start on.
func randomSill(r *rand.Rand, s size) api.Sill {
	x := api.Sill{Travel: within(r, 0, s.way, s.wide)}
	from := 0
	for range between(r, 1, 6) {
		if from > 2880 {
			break
		}
		x.Levels = append(x.Levels, api.Level{From: from, Depth: within(r, s.depth/4, s.depth, s.wide)})
		from = max(from, s.start) + between(r, 1, s.way)
	}
	return x
}

// anyVoyage returns a random valid voyage, a small or a great one.
func anyVoyage(r *rand.Rand) api.Voyage {
	if r.Intn(2) == 0 {
		return randomVoyage(r, great)
	}
	return randomVoyage(r, small)
}

// tinyVoyage returns a small voyage with so few truths that all of them can be gone through.
func tinyVoyage(r *rand.Rand) api.Voyage {
	v := randomVoyage(r, small)
	for countTruths(v) > 3000 {
		v = randomVoyage(r, small)
	}
	return v
}
