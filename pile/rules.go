package pile

import "swarf/api"

// demand is bounds of which one or more have to be so, or a rule is broken.
type demand []bound

// rule returns all demands by which it is kept at an hour.
type rule func(hour int) []demand

// rulesOf returns the rules of a ground.
func rulesOf(g api.Ground) []rule {
	near := tooNear(g)
	return []rule{
		func(hour int) []demand { return heights(g, hour) },
		func(hour int) []demand { return ages(g, hour) },
		func(hour int) []demand { return distances(g, near, hour) },
		func(hour int) []demand { return sorts(g, hour) },
	}
}

// heights returns what the rule of height demands at an hour. All that lies on a spot counts, of whatever sorts it is, as if it were of the sort of the spot.
func heights(g api.Ground, hour int) []demand {
	var list []demand
	for spot := range g.Spots {
		h := heapOn(upTo(g.Acts, hour), spot)
		list = append(list, demand{h.atMost(highest(g, spot, h.sort))})
	}
	return list
}

// highest returns how many kilograms of a sort may lie on a spot.
func highest(g api.Ground, spot, sort int) int {
	return g.Sorts[sort].High * g.Sorts[sort].Dense * g.Spots[spot].Area / 100
}

// ages returns what the rule of age demands at an hour: of an old tip nothing is left just if no less was taken than was tipped up to it.
func ages(g api.Ground, hour int) []demand {
	var list []demand
	acts := upTo(g.Acts, hour)
	for spot := range g.Spots {
		h := heapOn(acts, spot)
		for number, act := range actsOn(acts, spot) {
			if !act.Take && hour > act.Hour+g.Sorts[act.Sort].Age {
				old := heap{tipped: place(number), taken: h.taken}
				list = append(list, demand{old.atMost(0)})
			}
		}
	}
	return list
}

// distances returns what the rule of distance demands at an hour: of two heaps that are too near one is not there.
func distances(g api.Ground, near map[closeness]bool, hour int) []demand {
	var list []demand
	acts := upTo(g.Acts, hour)
	for b := range g.Spots {
		for a := range b {
			one, other := heapOn(acts, a), heapOn(acts, b)
			if near[closeness{a, b, one.sort}] || near[closeness{a, b, other.sort}] {
				list = append(list, demand{one.atMost(0), other.atMost(0)})
			}
		}
	}
	return list
}

// sorts returns what the rule of sort demands at an hour.
func sorts(g api.Ground, hour int) []demand {
	var list []demand
	for spot := range g.Spots {
		var h heap
		for number, act := range actsOn(g.Acts, spot) {
			if !act.Take && act.Hour == hour && act.Sort != h.sort {
				list = append(list, demand{h.atMost(0)})
			}
			h = h.after(number, act)
		}
	}
	return list
}

// closeness is two spots, and the sort of what lies on one of them.
type closeness [3]int

// tooNear returns which spots are too near to each other, and with which sorts.
func tooNear(g api.Ground) map[closeness]bool {
	near := make(map[closeness]bool)
	for a, one := range g.Spots {
		for b, other := range g.Spots {
			for sort := range g.Sorts {
				if a != b && distance(one, other) < g.Sorts[sort].Fire {
					near[closeness{a, b, sort}] = true
				}
			}
		}
	}
	return near
}

// distance returns how far two spots are apart.
func distance(a, b api.Spot) int {
	return max(a.X-b.X, b.X-a.X) + max(a.Y-b.Y, b.Y-a.Y)
}

// isRoomFor tells whether a load that is tipped after all acts breaks no rule of height, distance or sort on its spot, in no truth.
func isRoomFor(g api.Ground, load api.Act, known sums, near map[closeness]bool) bool {
	h := heapOn(g.Acts, load.Spot)
	if h.sort != load.Sort && !known.implies(h.atMost(0)) {
		return false
	}
	if !known.implies(h.atMost(highest(g, load.Spot, load.Sort) - load.Mass.Max)) {
		return false
	}
	for other := range g.Spots {
		beside := heapOn(g.Acts, other)
		isNear := near[closeness{load.Spot, other, load.Sort}] || near[closeness{load.Spot, other, beside.sort}]
		if isNear && !known.implies(beside.atMost(0)) {
			return false
		}
	}
	return true
}
