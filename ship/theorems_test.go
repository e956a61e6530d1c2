package ship_test

import (
	"math/rand"
	"slices"
	"testing"

	"swarf/api"
	"swarf/pile"
	"swarf/ship"
)

// TestP7_5True: whatever lots, water and ways truly are, drafts and times are within what is said, and the verdicts are so.
func TestP7_5True(t *testing.T) {
	r := rand.New(rand.NewSource(5))
	counts := make(map[int]int)
	over, tilted := 0, 0
	for range 7000 {
		v := anyVoyage(r)
		stowage := anyStowage(r, v)
		x := tell(t, v, stowage)
		if len(v.Sills) > 0 {
			counts[x.verdict]++
			over += len(x.over)
		}
		if !x.always {
			tilted++
		}
		for range 5 {
			truth := anyTruth(r, v)
			trip := sailed(truth, stowage)
			if !has(x.bow, trip.bow) || !has(x.stern, trip.stern) || !has(x.apart, trip.bow-trip.stern) {
				t.Fatalf("%v, %v in %v: %v, not within %v", v, stowage, truth, trip, x)
			}
			isWrong := x.verdict != api.Unsure && trip.isPassed(v) != (x.verdict == api.Always)
			if x.always && !trip.isLevel(v) || isWrong || len(trip.passed) < len(x.over) {
				t.Fatalf("%v, %v in %v: %v is not so: %v", v, stowage, truth, x, trip)
			}
			for i, minutes := range x.over {
				if !has(minutes, trip.passed[i]) {
					t.Fatalf("%v, %v in %v: over %d in %d, not %v", v, stowage, truth, i, trip.passed[i], minutes)
				}
			}
		}
	}
	if counts[api.Always] < 500 || counts[api.Nowhere] < 500 || counts[api.Unsure] < 500 || over < 1000 || tilted < 500 {
		t.Error("too few voyages were looked at", counts, over, tilted)
	}
}

// TestP7_6All: all truths of small voyages are gone through: what is told is just what is so.
func TestP7_6All(t *testing.T) {
	r := rand.New(rand.NewSource(6))
	counts := make(map[int]int)
	waits, parted := 0, 0
	for range 3000 {
		v := tinyVoyage(r)
		stowage := anyStowage(r, v)
		want := known(v, stowage)
		if x := tell(t, v, stowage); !x.same(want) {
			t.Fatalf("%v, %v: %v, not %v", v, stowage, x, want)
		}
		if len(v.Sills) > 0 {
			counts[want.verdict]++
		}
		if want.verdict == api.Unsure && len(want.over) > 0 {
			parted++
		}
		if want.verdict == api.Always && slices.ContainsFunc(want.over, func(r api.Range) bool { return r.Max > r.Min+2 }) {
			waits++
		}
	}
	if counts[api.Always] < 150 || counts[api.Nowhere] < 150 || counts[api.Unsure] < 150 || waits < 20 || parted < 50 {
		t.Error("too few voyages were looked at", counts, waits, parted)
	}
}

// narrowed returns a voyage of which more is known.
func narrowed(r *rand.Rand, v api.Voyage) api.Voyage {
	v = copyVoyage(v)
	for _, known := range open(&v) {
		if r.Intn(3) > 0 {
			from := between(r, known.Min, known.Max)
			*known = rng(from, between(r, from, known.Max))
		}
	}
	return v
}

// TestP7_7KnownBetter: with narrower ranges no range is wider, a verdict that is Always or Nowhere stays, and a barge that is always level enough is so.
func TestP7_7KnownBetter(t *testing.T) {
	r := rand.New(rand.NewSource(7))
	surer, sure := 0, 0
	for range 6000 {
		v := anyVoyage(r)
		stowage := anyStowage(r, v)
		better := narrowed(r, v)
		old, x := tell(t, v, stowage), tell(t, better, stowage)
		if !inside(x.bow, old.bow) || !inside(x.stern, old.stern) || !inside(x.apart, old.apart) || old.always && !x.always {
			t.Fatalf("%v, %v: with %v %v, not %v", v, stowage, better, x, old)
		}
		if old.verdict != api.Unsure && x.verdict != old.verdict || len(x.over) < len(old.over) {
			t.Fatalf("%v, %v: with %v %v, not %v", v, stowage, better, x, old)
		}
		for i, minutes := range old.over {
			if !inside(x.over[i], minutes) {
				t.Fatalf("%v, %v: with %v over %d in %v, not within %v", v, stowage, better, i, x.over[i], minutes)
			}
		}
		if old.verdict == api.Unsure && x.verdict != api.Unsure {
			surer++
		}
		if old.verdict != api.Unsure {
			sure++
		}
	}
	if surer < 200 || sure < 1000 {
		t.Error("too few voyages were looked at", surer, sure)
	}
}

// gains is how often a barge was over a sill sooner, and how often it surely passed more sills.
type gains struct{ sooner, more int }

// add fails unless with x the barge is over no sill later than with old, and passes always if it did; it counts what x gains.
func (g *gains) add(t *testing.T, old, x told) {
	t.Helper()
	if len(x.over) < len(old.over) || old.verdict == api.Always && x.verdict != api.Always || old.verdict != api.Nowhere && x.verdict == api.Nowhere {
		t.Fatalf("%v, not %v", x, old)
	}
	for i, minutes := range old.over {
		if x.over[i].Min > minutes.Min || x.over[i].Max > minutes.Max {
			t.Fatalf("over %d in %v, not %v", i, x.over[i], minutes)
		}
	}
	if len(old.over) > 0 && !slices.Equal(old.over, x.over[:len(old.over)]) {
		g.sooner++
	}
	if len(x.over) > len(old.over) {
		g.more++
	}
}

// TestP7_8Lighter: with lots left behind the barge is over no sill later, and passes always if it did.
func TestP7_8Lighter(t *testing.T) {
	r := rand.New(rand.NewSource(8))
	var g gains
	for range 8000 {
		v := anyVoyage(r)
		stowage := anyStowage(r, v)
		less := slices.Clone(stowage)
		for i := range less {
			if r.Intn(2) == 0 {
				less[i] = -1
			}
		}
		g.add(t, tell(t, v, stowage), tell(t, v, less))
	}
	if g.sooner < 100 || g.more < 200 {
		t.Error("too few voyages were looked at", g)
	}
}

// TestP7_9Deeper: with more water, shorter ways and an earlier start the barge is over no sill later, and passes always if it did.
func TestP7_9Deeper(t *testing.T) {
	r := rand.New(rand.NewSource(9))
	var g gains
	for range 9000 {
		v := anyVoyage(r)
		stowage := anyStowage(r, v)
		easier := copyVoyage(v)
		easier.Leaves = between(r, max(0, v.Leaves-3), v.Leaves)
		for i := range easier.Sills {
			s := &easier.Sills[i]
			low := between(r, 0, s.Travel.Min)
			s.Travel = rng(low, between(r, max(low, s.Travel.Max-9), s.Travel.Max))
			for j := range s.Levels {
				depth := &s.Levels[j].Depth
				low := between(r, depth.Min, min(10000, depth.Min+2))
				*depth = rng(low, between(r, max(low, depth.Max), min(10000, max(low, depth.Max)+2)))
			}
		}
		g.add(t, tell(t, v, stowage), tell(t, easier, stowage))
	}
	if g.sooner < 500 || g.more < 500 {
		t.Error("too few voyages were looked at", g)
	}
}

// best returns the first one of the stowages that carry the most worth among those that are good, of all valid stowages; nothing and -1 if there is none.
func best(v api.Voyage, isGood func(stowage []int) bool) (most []int, value int) {
	value = -1
	for _, stowage := range allStowages(v) {
		if worth(v, stowage) > value && isGood(stowage) {
			most, value = stowage, worth(v, stowage)
		}
	}
	return most, value
}

// checkBest fails unless Best returns that.
func checkBest(t *testing.T, v api.Voyage, want []int, value int) {
	t.Helper()
	if stowage, n, e := ship.Best(v); !slices.Equal(stowage, want) || n != value || e != api.OK {
		t.Fatalf("%v: %v %d %d, not %v %d", v, stowage, n, e, want, value)
	}
}

// TestP7_10Most: all stowages are looked at: no valid one with which the barge is always level enough and always passes has more worth than that of Best, nor as much and comes before.
func TestP7_10Most(t *testing.T) {
	r := rand.New(rand.NewSource(10))
	none, some, nothing := 0, 0, 0
	for range 1500 {
		v := anyVoyage(r)
		want, value := best(v, func(stowage []int) bool {
			always, _, e1 := ship.Level(v, stowage)
			verdict, _, e2 := ship.Sail(v, stowage)
			return always && verdict == api.Always && e1 == api.OK && e2 == api.OK
		})
		checkBest(t, v, want, value)
		switch {
		case value < 0:
			none++
		case value == 0:
			nothing++
		default:
			some++
		}
	}
	if none < 100 || nothing < 100 || some < 300 {
		t.Error("too few voyages were looked at", none, nothing, some)
	}
}

// TestP7_10All: the same with all truths of each stowage of small voyages.
func TestP7_10All(t *testing.T) {
	r := rand.New(rand.NewSource(110))
	some := 0
	for range 400 {
		v := tinyVoyage(r)
		v.Lots = v.Lots[:min(3, len(v.Lots))]
		want, value := best(v, func(stowage []int) bool {
			x := known(v, stowage)
			return x.always && x.verdict == api.Always
		})
		checkBest(t, v, want, value)
		if value > 0 {
			some++
		}
	}
	if some < 100 {
		t.Error("too few voyages were looked at", some)
	}
}

// TestP7_11Turned: if bow and stern change places, so do their drafts, and nothing else changes; the worth of Best is the same.
func TestP7_11Turned(t *testing.T) {
	r := rand.New(rand.NewSource(11))
	tilted := 0
	for range 2000 {
		v := anyVoyage(r)
		stowage := anyStowage(r, v)
		turned := copyVoyage(v)
		for i, hold := range v.Holds {
			turned.Holds[i].Bow, turned.Holds[i].Stern = hold.Stern, hold.Bow
		}
		want := tell(t, v, stowage)
		want.bow, want.stern = want.stern, want.bow
		want.apart = rng(-want.apart.Max, -want.apart.Min)
		if x := tell(t, turned, stowage); !x.same(want) {
			t.Fatalf("%v, %v: turned %v, not %v", v, stowage, x, want)
		}
		most, value, _ := ship.Best(v)
		checkBest(t, turned, most, value)
		if want.bow != want.stern {
			tilted++
		}
	}
	if tilted < 500 {
		t.Error("too few voyages were looked at", tilted)
	}
}

// TestP7_12HoldMore: with a hold more the worth of Best is no less.
func TestP7_12HoldMore(t *testing.T) {
	r := rand.New(rand.NewSource(12))
	same, more := 0, 0
	for range 2500 {
		v := anyVoyage(r)
		if len(v.Holds) == api.MaxHolds {
			continue
		}
		_, value, _ := ship.Best(v)
		longer := copyVoyage(v)
		hold := anyVoyage(r).Holds[0]
		longer.Holds = slices.Insert(longer.Holds, r.Intn(len(v.Holds)+1), hold)
		_, other, e := ship.Best(longer)
		if other < value || e != api.OK {
			t.Fatalf("%v: %d, but %d %d with %v", v, value, other, e, hold)
		}
		if other == value {
			same++
		} else {
			more++
		}
	}
	if same < 300 || more < 200 {
		t.Error("too few voyages were looked at", same, more)
	}
}

// kilo is how many kilograms a tonne has.
const kilo = 1000

// tipped is a ground, and what truly was tipped and taken on it.
type tipped struct {
	ground api.Ground
	masses []int
	lies   []int
}

// tipScrap returns a random ground and what truly lies on its spots, in kilograms.
func tipScrap(r *rand.Rand) tipped {
	x := tipped{ground: api.Ground{Sorts: []api.Sort{{High: 1000, Dense: 8000, Age: 72}}}}
	for range between(r, 1, api.MaxSpots) {
		x.ground.Spots = append(x.ground.Spots, api.Spot{X: r.Intn(1000), Area: 1000})
	}
	x.lies = make([]int, len(x.ground.Spots))
	for hour := range between(r, 1, api.MaxActs) {
		act := api.Act{Hour: hour, Spot: r.Intn(len(x.lies))}
		mass := between(r, 1, 400*kilo)
		if lies := x.lies[act.Spot]; lies > 0 && r.Intn(3) == 0 {
			act.Take, mass = true, between(r, 1, min(lies, api.MaxMass))
		}
		off := r.Intn(20 * kilo)
		act.Mass = rng(max(1, mass-r.Intn(off+1)), min(api.MaxMass, mass+r.Intn(off+1)))
		x.ground.Acts = append(x.ground.Acts, act)
		x.masses = append(x.masses, mass)
		if act.Take {
			mass = -mass
		}
		x.lies[act.Spot] += mass
	}
	return x
}

// known returns the same ground known better.
func (x tipped) known(r *rand.Rand) api.Ground {
	g := x.ground
	g.Acts = slices.Clone(g.Acts)
	for i, mass := range x.masses {
		old := g.Acts[i].Mass
		g.Acts[i].Mass = rng(between(r, old.Min, mass), between(r, mass, old.Max))
	}
	return g
}

// lotsOf returns lots of what may lie on the spots of a ground, in whole tonnes: from those that are full to those that are begun.
func lotsOf(t *testing.T, g api.Ground, worths []int) []api.Cargo {
	t.Helper()
	masses, e := pile.Masses(g, api.MaxHours)
	if e != api.OK {
		t.Fatalf("%v may be: %d", g, e)
	}
	var lots []api.Cargo
	for spot, mass := range masses {
		lots = append(lots, lot(mass.Min/kilo, (mass.Max+kilo-1)/kilo, worths[spot]))
	}
	return lots
}

// floats fails unless the barge, with so many kilograms of each lot in a hold, is level enough and passes, in a random truth of water and ways.
func floats(t *testing.T, r *rand.Rand, v api.Voyage, stowage, kilos []int) {
	t.Helper()
	// All is counted in thousandths of that in which ship does, so that kilograms are whole numbers.
	bow, stern := 1000*kilo*v.Light, 1000*kilo*v.Light
	for i, hold := range stowage {
		if hold >= 0 {
			bow, stern = bow+kilos[i]*v.Holds[hold].Bow, stern+kilos[i]*v.Holds[hold].Stern
		}
	}
	if bow-stern > 1000*kilo*v.Trim || stern-bow > 1000*kilo*v.Trim {
		t.Fatalf("%v, %v with %v: not level", v, stowage, kilos)
	}
	truth := anyTruth(r, v)
	minute, needs := v.Leaves, max(bow, stern)+1000*kilo*v.Under
	for at, s := range truth.Sills {
		minute += s.Travel.Min
		for minute <= api.MaxClock && 1000*kilo*depthAt(s, minute) < needs {
			minute++
		}
		if minute > api.MaxClock {
			t.Fatalf("%v, %v with %v in %v: stopped at %d", v, stowage, kilos, truth, at)
		}
	}
}

// TestT2Shipped: lots are what may lie on the spots of a ground; with the stowage of Best the barge passes, level enough, with what truly lies there, and of a ground that is known better no less worth is shipped.
func TestT2Shipped(t *testing.T) {
	r := rand.New(rand.NewSource(2))
	shipped, more := 0, 0
	for range 4000 {
		x := tipScrap(r)
		v := randomVoyage(r, great)
		worths := []int{r.Intn(9), r.Intn(9), r.Intn(9), r.Intn(9)}
		v.Lots = lotsOf(t, x.ground, worths)
		stowage, value, e := ship.Best(v)
		if e != api.OK {
			t.Fatalf("%v: %d", v, e)
		}
		better := copyVoyage(v)
		better.Lots = lotsOf(t, x.known(r), worths)
		_, other, e := ship.Best(better)
		if other < value || e != api.OK {
			t.Fatalf("%v: %d, but %d %d of %v", v, value, other, e, better)
		}
		if other > value {
			more++
		}
		if value > 0 {
			shipped++
		}
		if value >= 0 {
			floats(t, r, v, stowage, x.lies)
		}
	}
	if shipped < 500 || more < 30 {
		t.Error("too few voyages were looked at", shipped, more)
	}
}
