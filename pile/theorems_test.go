package pile_test

import (
	"math/rand"
	"slices"
	"testing"

	"swarf/api"
	"swarf/bridge"
	"swarf/pile"
)

// comesBefore tells whether an hour is before another one; -1 is later than all.
func comesBefore(a, b int) bool { return a >= 0 && (b < 0 || a < b) }

// TestP5_5True: grounds are made of a truth, of up to 10 acts and with great masses, and what is told is so in this truth.
func TestP5_5True(t *testing.T) {
	r := rand.New(rand.NewSource(5))
	counts := make(map[string]int)
	for range 2000 {
		g, truth := live(r, great)
		perhaps, surely, e := pile.Breaks(g)
		if e != api.OK {
			t.Fatalf("%v may be, but: %d", g, e)
		}
		broken := -1
		history(g, truth, func(hour int, y yard, rules []int) {
			if broken < 0 && slices.Max(rules) > 0 {
				broken = hour
			}
			checkHour(t, r, g, hour, y)
		})
		if comesBefore(broken, perhaps) || comesBefore(surely, broken) {
			t.Fatalf("%v: a rule is broken at %d, but Breaks %d %d", g, broken, perhaps, surely)
		}
		switch {
		case broken < 0:
			counts["kept"]++
		case perhaps < broken:
			counts["earlier perhaps"]++
		case surely != perhaps:
			counts["later surely"]++
		default:
			counts["just then"]++
		}
	}
	if len(counts) != 4 || counts["kept"] < 200 || counts["just then"] < 200 {
		t.Error("too few grounds were looked at", counts)
	}
}

// checkHour checks what is told of an hour of a truth.
func checkHour(t *testing.T, r *rand.Rand, g api.Ground, hour int, y yard) {
	t.Helper()
	if hour%4 > 0 {
		return
	}
	for spot, mass := range first(pile.Masses(g, hour)) {
		if !has(mass, y.kilos(spot)) {
			t.Fatalf("%v: on %d at %d lie %d, not %v", g, spot, hour, y.kilos(spot), mass)
		}
		age := r.Intn(min(hour, api.MaxHours) + 1)
		if is, e := pile.Older(g, spot, hour, age); e != api.OK || !isTold(is, y.isOld(spot, hour, age)) {
			t.Fatalf("%v: %v is older than %d on %d at %d: %d %d", g, y, age, spot, hour, is, e)
		}
	}
}

// checkAll checks a ground against all of its truths, and returns what they say.
func checkAll(t *testing.T, g api.Ground) told {
	t.Helper()
	all := tryAll(g)
	perhaps, surely, e := pile.Breaks(g)
	if !all.some {
		if e != api.ErrConflict || mayBe(g) {
			t.Fatalf("%v may not be: Breaks %d %d %d", g, perhaps, surely, e)
		}
		return all
	}
	if e != api.OK || perhaps != all.perhaps || surely != all.surely {
		t.Fatalf("%v: Breaks %d %d %d, not %d %d", g, perhaps, surely, e, all.perhaps, all.surely)
	}
	for _, hour := range asked {
		list, e := pile.Masses(g, hour)
		if e != api.OK || !slices.Equal(list, all.masses[hour]) {
			t.Fatalf("%v at %d: Masses %v %d, not %v", g, hour, list, e, all.masses[hour])
		}
		for spot, ages := range all.older[hour] {
			for age, tally := range ages {
				if is, e := pile.Older(g, spot, hour, age); e != api.OK || is != tally.verdict() {
					t.Fatalf("%v on %d at %d: older than %d is %d %d, not %v", g, spot, hour, age, is, e, tally)
				}
			}
		}
	}
	return all
}

// TestP5_6All: all truths of small grounds are gone through; both ends of all ranges are reached, verdicts and both hours are just what they say.
func TestP5_6All(t *testing.T) {
	r := rand.New(rand.NewSource(6))
	conflicts, between, never, perhaps := 0, 0, 0, 0
	for i := range 2000 {
		g := randomGround(r, small)
		if i%3 > 0 {
			g, _ = live(r, small)
		}
		all := checkAll(t, g)
		switch {
		case !all.some:
			conflicts++
		case all.perhaps < 0:
			never++
		case all.surely < 0:
			perhaps++
		case all.surely > all.perhaps:
			between++
		}
	}
	if conflicts < 300 || never < 100 || perhaps < 100 || between < 100 {
		t.Error("too few grounds were looked at", conflicts, never, perhaps, between)
	}
}

// TestP5_6Near: all truths of grounds on which of heaps that are near to each other one or the other may be gone.
func TestP5_6Near(t *testing.T) {
	r := rand.New(rand.NewSource(66))
	conflicts, between, perhaps := 0, 0, 0
	for range 1000 {
		all := checkAll(t, near(r))
		switch {
		case !all.some:
			conflicts++
		case all.surely > all.perhaps:
			between++
		case all.perhaps >= 0 && all.surely < 0:
			perhaps++
		}
	}
	if conflicts > 500 || between < 100 || perhaps < 200 {
		t.Error("too few grounds were looked at", conflicts, between, perhaps)
	}
}

// TestP5_7KnownBetter: with narrower masses no range is wider, a verdict that is sure stays, and no rule may be broken sooner, nor surely later.
func TestP5_7KnownBetter(t *testing.T) {
	r := rand.New(rand.NewSource(7))
	narrower := 0
	for range 2000 {
		g, truth := live(r, great)
		if r.Intn(2) == 0 {
			g, truth = live(r, small)
		}
		better := copyGround(g)
		for i, mass := range truth {
			is := &better.Acts[i].Mass
			is.Min = between(r, is.Min, mass)
			is.Max = between(r, mass, is.Max)
		}
		perhaps, surely, _ := pile.Breaks(g)
		perhaps2, surely2, e := pile.Breaks(better)
		if e != api.OK || comesBefore(perhaps2, perhaps) || comesBefore(surely, surely2) {
			t.Fatalf("%v: Breaks %d %d %d, before %d %d", better, perhaps2, surely2, e, perhaps, surely)
		}
		if perhaps != perhaps2 || surely != surely2 {
			narrower++
		}
		hour, age := r.Intn(api.MaxHours+1), r.Intn(9)
		wide := first(pile.Masses(g, hour))
		for spot, mass := range first(pile.Masses(better, hour)) {
			before, after := first(pile.Older(g, spot, hour, age)), first(pile.Older(better, spot, hour, age))
			if !inside(mass, wide[spot]) || before != api.Unsure && after != before {
				t.Fatalf("%v on %d at %d: %v and %d, before %v and %d", better, spot, hour, mass, after, wide[spot], before)
			}
		}
	}
	if narrower < 100 {
		t.Error("too few grounds were looked at", narrower)
	}
}

// TestP5_8Room: a load that is tipped on a spot of Room breaks no rule of height, distance or sort there, in any truth; on any other spot it does in some.
func TestP5_8Room(t *testing.T) {
	r := rand.New(rand.NewSource(8))
	fits, fitsNot := 0, 0
	for range 3000 {
		g := randomGround(r, small)
		if r.Intn(3) == 0 {
			g = near(r)
		}
		g.Acts = g.Acts[:min(len(g.Acts), api.MaxActs-1)]
		if !mayBe(g) {
			continue
		}
		hour, sort, mass := between(r, 7, 9), r.Intn(len(g.Sorts)), between(r, 1, 5)
		room, e := pile.Room(g, hour, sort, mass)
		if e != api.OK || !slices.IsSorted(room) {
			t.Fatalf("%v: Room %v %d", g, room, e)
		}
		for spot := range g.Spots {
			is := slices.Contains(room, spot)
			if is {
				fits++
			} else {
				fitsNot++
			}
			more := copyGround(g)
			more.Acts = append(more.Acts, tip(hour, spot, sort, mass, mass))
			if breaksThere(more) == is {
				t.Fatalf("%v: %d of %d at %d, Room %v", g, mass, sort, hour, room)
			}
		}
	}
	if fits < 500 || fitsNot < 500 {
		t.Error("too few spots were looked at", fits, fitsNot)
	}
}

// breaksThere tells whether the last act of a ground breaks, in some truth, a rule of height, distance or sort on its spot.
func breaksThere(g api.Ground) bool {
	last := g.Acts[len(g.Acts)-1]
	breaks := false
	truths(g, func(masses []int) {
		y := newYard(len(g.Spots))
		for i, act := range g.Acts[:len(g.Acts)-1] {
			y.do(act, masses[i])
		}
		isMixed := y.kilos(last.Spot) > 0 && y.sorts[last.Spot] != last.Sort
		y.do(last, masses[len(masses)-1])
		breaks = breaks || isMixed || y.broken(g, last.Spot, last.Hour)&(height|far) != 0
	})
	return breaks
}

// TestP5_9Later: if all acts are some hours later, so are both hours of Breaks, as far as there are so many hours.
func TestP5_9Later(t *testing.T) {
	r := rand.New(rand.NewSource(9))
	moved := func(hour, by int) int {
		if hour < 0 || hour+by > api.MaxHours {
			return -1
		}
		return hour + by
	}
	beyond, broken := 0, 0
	for range 3000 {
		g := randomGround(r, small)
		if r.Intn(2) == 0 {
			g, _ = live(r, great)
		}
		perhaps, surely, e := pile.Breaks(g)
		room := api.MaxHours
		if len(g.Acts) > 0 {
			room -= g.Acts[len(g.Acts)-1].Hour
		}
		by := r.Intn(room + 1)
		if r.Intn(3) == 0 {
			by = room
		}
		late := copyGround(g)
		for i := range late.Acts {
			late.Acts[i].Hour += by
		}
		perhaps2, surely2, e2 := pile.Breaks(late)
		if e2 != e || e == api.OK && (perhaps2 != moved(perhaps, by) || surely2 != moved(surely, by)) {
			t.Fatalf("%v: Breaks %d %d %d; %d hours later %d %d %d", g, perhaps, surely, e, by, perhaps2, surely2, e2)
		}
		if by > 0 && perhaps2 > 0 {
			broken++
		}
		if perhaps >= 0 && perhaps2 < 0 {
			beyond++
		}
	}
	if broken < 500 || beyond < 20 {
		t.Error("too few grounds were looked at", broken, beyond)
	}
}

// TestP5_10OtherSpots: two acts of one hour, one after the other, on different spots may as well be the other way round.
func TestP5_10OtherSpots(t *testing.T) {
	r := rand.New(rand.NewSource(10))
	swapped := 0
	for range 3000 {
		g, _ := live(r, size{spots: 4, sorts: 2, acts: 10, hours: 3, mass: 4, wide: 3, reach: 3})
		turned := copyGround(g)
		swaps := 0
		for i := range max(len(g.Acts)-1, 0) {
			one, next := &turned.Acts[i], &turned.Acts[i+1]
			if one.Hour == next.Hour && one.Spot != next.Spot && r.Intn(2) == 0 {
				*one, *next = *next, *one
				swaps++
			}
		}
		if swaps == 0 {
			continue
		}
		swapped++
		checkSame(t, g, turned)
	}
	if swapped < 1000 {
		t.Error("too few grounds were looked at", swapped)
	}
}

// checkSame checks that the same is told of two grounds.
func checkSame(t *testing.T, g, other api.Ground) {
	t.Helper()
	perhaps, surely, e := pile.Breaks(g)
	perhaps2, surely2, e2 := pile.Breaks(other)
	if perhaps2 != perhaps || surely2 != surely || e2 != e {
		t.Fatalf("%v: %d %d %d; %v: %d %d %d", g, perhaps, surely, e, other, perhaps2, surely2, e2)
	}
	for hour := range 6 {
		list, list2 := first(pile.Masses(g, hour)), first(pile.Masses(other, hour))
		if !slices.Equal(list, list2) {
			t.Fatalf("%v: %v; %v: %v", g, list, other, list2)
		}
		for spot := range g.Spots {
			if is, is2 := first(pile.Older(g, spot, hour, 1)), first(pile.Older(other, spot, hour, 1)); is != is2 {
				t.Fatalf("%v on %d at %d: %d; %v: %d", g, spot, hour, is, other, is2)
			}
		}
	}
	room, room2 := first(pile.Room(g, 9, 0, 2)), first(pile.Room(other, 9, 0, 2))
	if !slices.Equal(room, room2) {
		t.Fatalf("%v: %v; %v: %v", g, room, other, room2)
	}
}

// TestP5_11Stricter: with lower heights, greater distances and shorter ages no hour of Breaks is later.
func TestP5_11Stricter(t *testing.T) {
	r := rand.New(rand.NewSource(11))
	sooner := 0
	for range 3000 {
		g, _ := live(r, great)
		switch r.Intn(3) {
		case 0:
			g, _ = live(r, small)
		case 1:
			g = near(r)
		}
		stricter := copyGround(g)
		for i := range stricter.Sorts {
			sort := &stricter.Sorts[i]
			sort.High = between(r, max(1, sort.High/4), sort.High)
			sort.Fire = between(r, sort.Fire, min(api.MaxFire, sort.Fire+3))
			sort.Age = between(r, sort.Age/2, sort.Age)
		}
		perhaps, surely, e := pile.Breaks(g)
		perhaps2, surely2, e2 := pile.Breaks(stricter)
		if e != e2 || comesBefore(perhaps, perhaps2) || comesBefore(surely, surely2) {
			t.Fatalf("%v: Breaks %d %d %d, of %v %d %d %d", g, perhaps, surely, e, stricter.Sorts, perhaps2, surely2, e2)
		}
		if comesBefore(surely2, surely) {
			sooner++
		}
	}
	if sooner < 300 {
		t.Error("too few grounds were looked at", sooner)
	}
}

// TestP5_12Old: what is older than some hours is older than fewer, and where surely nothing lies nothing is old.
func TestP5_12Old(t *testing.T) {
	r := rand.New(rand.NewSource(12))
	empty, old := 0, 0
	for range 1000 {
		g := randomGround(r, small)
		if r.Intn(2) == 0 {
			g, _ = live(r, great)
		}
		hour := r.Intn(api.MaxHours + 1)
		for spot, mass := range first(pile.Masses(g, hour)) {
			before := api.Nowhere
			for age := api.MaxHours; age >= 0; age-- {
				is := first(pile.Older(g, spot, hour, age))
				isLess := before == api.Always && is != api.Always || before == api.Unsure && is == api.Nowhere
				if isLess || mass.Max == 0 && is != api.Nowhere {
					t.Fatalf("%v: older than %d on %d at %d: %d, but %d one hour more; %v", g, age, spot, hour, is, before, mass)
				}
				before = is
			}
			if before != api.Nowhere {
				old++
			}
			if mass.Max == 0 {
				empty++
			}
		}
	}
	if empty < 200 || old < 200 {
		t.Error("too few spots were looked at", empty, old)
	}
}

// scale is a bridge with a tape, and what its zero truly is.
type scale struct {
	r    *rand.Rand
	log  api.Log
	zero int
}

// weigh adds an event with a true load to the tape, and returns its number.
func (s *scale) weigh(load int) int {
	drift := between(s.r, -5, 5)
	s.zero = max(-api.MaxZero, min(api.MaxZero, s.zero+drift))
	// What is shown is the multiple that is nearest, of two the greater one.
	shown := load + s.zero + s.log.Step/2
	shown -= (shown%s.log.Step + s.log.Step) % s.log.Step
	event := api.Event{Kind: api.EventLoad, Shown: shown, Change: rng(-5, 5)}
	if load == 0 {
		event.Kind = api.EventEmpty
	}
	s.log.Events = append(s.log.Events, event)
	return len(s.log.Events) - 1
}

// lorry is a slip, and what the lorry truly brings.
type lorry struct {
	slip api.Slip
	net  int
}

// lorries returns lorries that were weighed on a bridge, and the tape.
func lorries(r *rand.Rand) ([]lorry, api.Log) {
	s := scale{r: r, zero: between(r, -10, 10), log: api.Log{Step: between(r, 1, 50), Zero: rng(-10, 10)}}
	var list []lorry
	for range between(r, 1, 4) {
		bare, net, driver := between(r, 3000, 9000), between(r, 200, 20000), between(r, 60, 90)
		seat := r.Intn(3)
		weight := bare + net
		if seat == api.SeatTaken || seat == api.SeatUnsure && r.Intn(2) == 0 {
			weight += driver
		}
		slip := api.Slip{Full: []int{s.weigh(weight)}, FullSeat: seat, Driver: rng(60, 90)}
		if r.Intn(2) == 0 {
			s.weigh(0)
		}
		slip.Bare = []int{s.weigh(bare)}
		list = append(list, lorry{slip, net})
	}
	return list, s.log
}

// TestT1Piled: what lorries bring is tipped with their net weights, as the bridge tells them, and some is taken; what truly lies on each spot is within what is told.
func TestT1Piled(t *testing.T) {
	r := rand.New(rand.NewSource(1))
	light, tipped := 0, 0
	for range 2000 {
		list, log := lorries(r)
		g := yardOf(r, great)
		y := newYard(len(g.Spots))
		var kilos [][]int
		hour := 0
		note := func(act api.Act, mass int) {
			y.do(act, mass)
			g.Acts = append(g.Acts, act)
			var now []int
			for spot := range g.Spots {
				now = append(now, y.kilos(spot))
			}
			kilos = append(kilos, now)
		}
		for _, l := range list {
			net, e := bridge.Net(log, l.slip)
			if e != api.OK {
				t.Fatalf("%v may be: %d", log, e)
			}
			if net.Min < 1 {
				light++
				continue
			}
			tipped++
			spot := r.Intn(len(g.Spots))
			hour += between(r, 1, 9)
			note(api.Act{Hour: hour, Spot: spot, Sort: r.Intn(len(g.Sorts)), Mass: net}, l.net)
			if r.Intn(2) == 0 {
				mass := between(r, 1, y.kilos(spot))
				hour += between(r, 1, 9)
				note(api.Act{Hour: hour, Spot: spot, Mass: around(r, mass, 500), Take: true}, mass)
			}
		}
		for i, act := range g.Acts {
			masses, e := pile.Masses(g, act.Hour)
			for spot, mass := range masses {
				if !has(mass, kilos[i][spot]) {
					t.Fatalf("%v with %v: on %d at %d lie %d, not %v", g, log, spot, act.Hour, kilos[i][spot], mass)
				}
			}
			if e != api.OK {
				t.Fatalf("%v may be: %d", g, e)
			}
		}
	}
	if tipped < 3000 || light > 500 {
		t.Error("too few lorries were looked at", tipped, light)
	}
}
