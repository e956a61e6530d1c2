package pile_test

import (
	"math/rand"
	"slices"

	"swarf/api"
	"swarf/pile"
)

// rng returns a range.
func rng(low, high int) api.Range { return api.Range{Min: low, Max: high} }

// Acts of both kinds.
func tip(hour, spot, sort, low, high int) api.Act {
	return api.Act{Hour: hour, Spot: spot, Sort: sort, Mass: rng(low, high)}
}

func take(hour, spot, low, high int) api.Act {
	return api.Act{Hour: hour, Spot: spot, Mass: rng(low, high), Take: true}
}

// groundG is G of the chapter's examples.
func groundG() api.Ground {
	return api.Ground{
		Spots: []api.Spot{{X: 0, Y: 0, Area: 10}, {X: 4, Y: 0, Area: 10}, {X: 30, Y: 0, Area: 20}},
		Sorts: []api.Sort{{High: 200, Dense: 1000, Fire: 5, Age: 72}, {High: 300, Dense: 200, Fire: 12, Age: 10}},
		Acts: []api.Act{
			tip(1, 0, 0, 8000, 9000),
			tip(2, 2, 1, 2000, 2500),
			tip(3, 0, 0, 11500, 12000),
			take(5, 0, 5000, 6000),
			tip(8, 1, 1, 1000, 1000),
		},
	}
}

// withG returns G with a change, withF F with one: G without the act 4.
func withG(change func(g *api.Ground)) api.Ground {
	g := groundG()
	change(&g)
	return g
}

func withF(change func(g *api.Ground)) api.Ground {
	g := groundG()
	g.Acts = g.Acts[:4]
	change(&g)
	return g
}

// asIs changes nothing.
func asIs(g *api.Ground) {}

// tall is a sort of which as much as may be may lie anywhere, as long as it may.
var tall = api.Sort{High: 1000, Dense: 8000, Fire: 0, Age: 72}

// apart returns a ground of four spots, far apart from each other, and two sorts of which nothing is broken but by mixing them.
func apart(acts ...api.Act) api.Ground {
	return api.Ground{
		Spots: []api.Spot{{Area: 1000}, {X: 1000, Area: 1000}, {Y: 1000, Area: 1000}, {X: 1000, Y: 1000, Area: 1000}},
		Sorts: []api.Sort{tall, tall},
		Acts:  acts,
	}
}

// together returns a ground of four spots in the same place, and a sort of which only one heap may be there.
func together(acts ...api.Act) api.Ground {
	g := apart(acts...)
	g.Spots = slices.Repeat([]api.Spot{{X: 5, Y: 5, Area: 1000}}, 4)
	g.Sorts[0].Fire = 1
	return g
}

// copyGround returns a copy that shares no memory.
func copyGround(g api.Ground) api.Ground {
	return api.Ground{Spots: slices.Clone(g.Spots), Sorts: slices.Clone(g.Sorts), Acts: slices.Clone(g.Acts)}
}

// sameGround tells whether two grounds are equal.
func sameGround(a, b api.Ground) bool {
	return slices.Equal(a.Spots, b.Spots) && slices.Equal(a.Sorts, b.Sorts) && slices.Equal(a.Acts, b.Acts)
}

// first returns the first of two results.
func first[T any](x T, e api.Errno) T { return x }

// between returns a random number from low to high.
func between(r *rand.Rand, low, high int) int { return low + r.Intn(high-low+1) }

// has tells whether n is in a range; inside whether all of a is in b.
func has(r api.Range, n int) bool { return r.Min <= n && n <= r.Max }

func inside(a, b api.Range) bool { return b.Min <= a.Min && a.Max <= b.Max }

// isTold tells whether a verdict is right of something that is so, or is not.
func isTold(verdict int, isSo bool) bool {
	return verdict == api.Unsure || verdict == api.Always && isSo || verdict == api.Nowhere && !isSo
}

// lot is what is left of a tip.
type lot struct{ hour, sort, left int }

// yard is what lies on each spot, the oldest tip first, and the sort of the last tip on it (-1 if there was none).
type yard struct {
	lots  [][]lot
	sorts []int
}

// newYard returns an empty yard.
func newYard(spots int) yard {
	return yard{lots: make([][]lot, spots), sorts: slices.Repeat([]int{-1}, spots)}
}

// kilos returns what lies on a spot.
func (y yard) kilos(spot int) int {
	sum := 0
	for _, l := range y.lots[spot] {
		sum += l.left
	}
	return sum
}

// do does an act with that mass, kilogram by kilogram, and tells whether it can be done.
func (y yard) do(act api.Act, mass int) bool {
	if !act.Take {
		y.lots[act.Spot] = append(y.lots[act.Spot], lot{act.Hour, act.Sort, mass})
		y.sorts[act.Spot] = act.Sort
		return true
	}
	for mass > 0 && len(y.lots[act.Spot]) > 0 {
		oldest := &y.lots[act.Spot][0]
		gone := min(mass, oldest.left)
		mass -= gone
		oldest.left -= gone
		if oldest.left == 0 {
			y.lots[act.Spot] = y.lots[act.Spot][1:]
		}
	}
	return mass == 0
}

// isOld tells whether something lies on a spot at an hour that was tipped more than age hours before.
func (y yard) isOld(spot, hour, age int) bool {
	return slices.ContainsFunc(y.lots[spot], func(l lot) bool { return hour-l.hour > age })
}

// Rules that may be broken on a spot.
const (
	height = 1 << iota
	age
	far
	sorting
)

// history goes through the hours of a truth and visits the yard and which rules are broken, spot by spot, at each of them.
func history(g api.Ground, masses []int, visit func(hour int, y yard, broken []int)) {
	y := newYard(len(g.Spots))
	next := 0
	for hour := 0; hour <= api.MaxHours; hour++ {
		broken := make([]int, len(g.Spots))
		for ; next < len(g.Acts) && g.Acts[next].Hour == hour; next++ {
			act := g.Acts[next]
			if !act.Take && y.kilos(act.Spot) > 0 && y.sorts[act.Spot] != act.Sort {
				broken[act.Spot] |= sorting
			}
			y.do(act, masses[next])
		}
		for spot := range g.Spots {
			broken[spot] |= y.broken(g, spot, hour)
		}
		visit(hour, y, broken)
	}
}

// broken returns which rules of height, age and distance are broken on a spot at an hour.
func (y yard) broken(g api.Ground, spot, hour int) int {
	kilos := y.kilos(spot)
	if kilos == 0 {
		return 0
	}
	rules := 0
	here, sort := g.Spots[spot], g.Sorts[y.sorts[spot]]
	if 100*kilos > sort.High*sort.Dense*here.Area {
		rules |= height
	}
	for _, l := range y.lots[spot] {
		if hour > l.hour+g.Sorts[l.sort].Age {
			rules |= age
		}
	}
	for other, there := range g.Spots {
		if other == spot || y.kilos(other) == 0 {
			continue
		}
		steps := max(here.X, there.X) - min(here.X, there.X) + max(here.Y, there.Y) - min(here.Y, there.Y)
		if steps < sort.Fire || steps < g.Sorts[y.sorts[other]].Fire {
			rules |= far
		}
	}
	return rules
}

// truths goes through all truths of a ground and visits the masses of all acts.
func truths(g api.Ground, visit func(masses []int)) {
	masses := make([]int, len(g.Acts))
	var choose func(act int, kilos []int)
	choose = func(act int, kilos []int) {
		if act == len(g.Acts) {
			visit(masses)
			return
		}
		a := g.Acts[act]
		for mass := a.Mass.Min; mass <= a.Mass.Max; mass++ {
			next := slices.Clone(kilos)
			if a.Take {
				next[a.Spot] -= mass
			} else {
				next[a.Spot] += mass
			}
			if next[a.Spot] >= 0 {
				masses[act] = mass
				choose(act+1, next)
			}
		}
	}
	choose(0, make([]int, len(g.Spots)))
}

// tally is in how many truths something is so, and in how many it is not.
type tally struct{ yes, no int }

func (t *tally) add(isSo bool) {
	if isSo {
		t.yes++
	} else {
		t.no++
	}
}

func (t tally) verdict() int {
	switch {
	case t.no == 0:
		return api.Always
	case t.yes == 0:
		return api.Nowhere
	}
	return api.Unsure
}

// told is what all truths of a ground say: how many there are, what may lie where at the hours that are asked for, what is older than how many hours, and the hours at which rules are broken.
type told struct {
	some            bool
	masses          [api.MaxHours + 1][]api.Range
	older           [api.MaxHours + 1][][maxAge + 1]tally
	perhaps, surely int
}

// maxAge is up to which age all truths are asked for old scrap.
const maxAge = 8

// asked are the hours of which all truths are asked what lies where.
var asked = []int{0, 1, 2, 3, 4, 5, 6, 7, 11, api.MaxHours}

// tryAll goes through all truths of a ground.
func tryAll(g api.Ground) told {
	all := told{perhaps: -1}
	truths(g, func(masses []int) {
		broken := -1
		history(g, masses, func(hour int, y yard, rules []int) {
			if slices.Contains(asked, hour) {
				all.see(g, hour, y)
			}
			if broken < 0 && slices.Max(rules) > 0 {
				broken = hour
			}
		})
		if broken >= 0 && (all.perhaps < 0 || broken < all.perhaps) {
			all.perhaps = broken
		}
		if !all.some || all.surely >= 0 && (broken < 0 || broken > all.surely) {
			all.surely = broken
		}
		all.some = true
	})
	return all
}

// see notes what lies on all spots at an hour of a truth.
func (all *told) see(g api.Ground, hour int, y yard) {
	if all.masses[hour] == nil {
		all.masses[hour] = slices.Repeat([]api.Range{rng(1<<30, -1)}, len(g.Spots))
		all.older[hour] = make([][maxAge + 1]tally, len(g.Spots))
	}
	for spot := range g.Spots {
		r, kilos := &all.masses[hour][spot], y.kilos(spot)
		*r = rng(min(r.Min, kilos), max(r.Max, kilos))
		for age := range all.older[hour][spot] {
			all.older[hour][spot][age].add(y.isOld(spot, hour, age))
		}
	}
}

// size is how great a random ground is at most.
type size struct{ spots, sorts, acts, hours, mass, wide, reach int }

// small is the size of grounds of which all truths are gone through.
var small = size{spots: 4, sorts: 3, acts: 7, hours: 6, mass: 4, wide: 2, reach: 3}

// great is the size of the greatest grounds.
var great = size{spots: api.MaxSpots, sorts: api.MaxSorts, acts: api.MaxActs, hours: api.MaxHours, mass: api.MaxMass, wide: 200000, reach: 60}

// yardOf returns a random ground without acts, on which some heaps break rules.
func yardOf(r *rand.Rand, s size) api.Ground {
	var g api.Ground
	for range between(r, 1, s.spots) {
		g.Spots = append(g.Spots, api.Spot{X: r.Intn(s.reach + 1), Y: r.Intn(s.reach + 1), Area: between(r, 1, 2)})
	}
	for range between(r, 1, s.sorts) {
		sort := api.Sort{High: between(r, 1, 12), Dense: 100, Fire: r.Intn(s.reach + 3), Age: r.Intn(s.hours + 2)}
		if s.mass > 1000 {
			sort.High, sort.Dense = between(r, 100, 1000), between(r, 1000, 8000)
			for i := range g.Spots {
				g.Spots[i].Area = between(r, 1, 60)
			}
		}
		sort.Age = min(sort.Age, api.MaxHours)
		if r.Intn(2) == 0 {
			sort.High = api.MaxHigh
		}
		if r.Intn(3) > 0 {
			sort.Age = api.MaxHours
		}
		if r.Intn(2) == 0 {
			sort.Fire = 0
		}
		g.Sorts = append(g.Sorts, sort)
	}
	return g
}

// hoursOf returns ascending random hours.
func hoursOf(r *rand.Rand, count, last int) []int {
	var list []int
	for range count {
		list = append(list, r.Intn(last+1))
	}
	slices.Sort(list)
	return list
}

// around returns a random range of masses about one.
func around(r *rand.Rand, mass, wide int) api.Range {
	return rng(max(1, mass-r.Intn(wide+1)), min(api.MaxMass, mass+r.Intn(wide+1)))
}

// randomGround returns a random ground, which may be or may not be.
func randomGround(r *rand.Rand, s size) api.Ground {
	g := yardOf(r, s)
	for _, hour := range hoursOf(r, r.Intn(s.acts+1), s.hours) {
		act := api.Act{Hour: hour, Spot: r.Intn(len(g.Spots)), Mass: around(r, between(r, 1, s.mass), s.wide)}
		act.Take = r.Intn(5) < 2
		if !act.Take && r.Intn(3) == 0 {
			act.Sort = r.Intn(len(g.Sorts))
		}
		g.Acts = append(g.Acts, act)
	}
	return g
}

// live returns a random ground that is made of a truth, and the masses of its acts in it.
func live(r *rand.Rand, s size) (api.Ground, []int) {
	g := yardOf(r, s)
	y := newYard(len(g.Spots))
	var masses []int
	for _, hour := range hoursOf(r, r.Intn(s.acts+1), s.hours) {
		act := api.Act{Hour: hour, Spot: r.Intn(len(g.Spots))}
		mass := between(r, 1, s.mass)
		if kilos := y.kilos(act.Spot); kilos > 0 && r.Intn(2) == 0 {
			act.Take, mass = true, min(mass, kilos)
			if r.Intn(3) == 0 {
				mass = min(kilos, s.mass)
			}
		} else if r.Intn(3) == 0 {
			act.Sort = r.Intn(len(g.Sorts))
		}
		act.Mass = around(r, mass, s.wide)
		y.do(act, mass)
		g.Acts, masses = append(g.Acts, act), append(masses, mass)
	}
	return g, masses
}

// near returns a random ground of spots that are near to each other, on which in a few hours much is tipped and all, or nearly all, is taken.
func near(r *rand.Rand) api.Ground {
	g := together()
	g.Spots = g.Spots[:between(r, 2, 4)]
	for i := range g.Spots {
		g.Spots[i].X = r.Intn(3)
	}
	g.Sorts[0].Fire, g.Sorts[1].Fire = between(r, 1, 3), r.Intn(3)
	if r.Intn(2) == 0 {
		g.Sorts[0].Age, g.Sorts[1].Age = between(r, 2, 9), between(r, 2, 9)
	}
	for _, hour := range hoursOf(r, between(r, 2, 5), 3) {
		spot, mass := r.Intn(len(g.Spots)), between(r, 2, 3)
		g.Acts = append(g.Acts, tip(hour, spot, r.Intn(2), mass, mass+r.Intn(2)), take(hour, spot, mass-r.Intn(2), mass+r.Intn(2)))
	}
	for _, hour := range hoursOf(r, r.Intn(3), 3) {
		g.Acts = append(g.Acts, take(hour+3, r.Intn(len(g.Spots)), 1, between(r, 1, 2)))
	}
	if r.Intn(2) == 0 {
		g.Acts = append(g.Acts, tip(7, r.Intn(len(g.Spots)), r.Intn(2), 1, 1))
	}
	g.Acts = g.Acts[:min(len(g.Acts), api.MaxActs)]
	return g
}

// mayBe tells whether a ground may be.
func mayBe(g api.Ground) bool {
	_, e := pile.Masses(g, 0)
	return e == api.OK
}
