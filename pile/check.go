package pile

import (
	"swarf/api"
	"swarf/span"
)

// isWithin tells whether n is from low to high.
func isWithin(n, low, high int) bool { return n >= low && n <= high }

// checkSpots returns the first error of the spots of a ground.
func checkSpots(spots []api.Spot) api.Errno {
	if len(spots) < 1 {
		return api.ErrFew
	}
	if len(spots) > api.MaxSpots {
		return api.ErrMany
	}
	for _, spot := range spots {
		isPlace := isWithin(spot.X, 0, api.MaxReach) && isWithin(spot.Y, 0, api.MaxReach)
		if !isPlace || !isWithin(spot.Area, 1, api.MaxArea) {
			return api.ErrValue
		}
	}
	return api.OK
}

// checkSorts returns the first error of the sorts of a ground.
func checkSorts(sorts []api.Sort) api.Errno {
	if len(sorts) < 1 {
		return api.ErrFew
	}
	if len(sorts) > api.MaxSorts {
		return api.ErrMany
	}
	for _, sort := range sorts {
		isHeap := isWithin(sort.High, 1, api.MaxHigh) && isWithin(sort.Dense, 1, api.MaxDense)
		if !isHeap || !isWithin(sort.Fire, 0, api.MaxFire) || !isWithin(sort.Age, 0, api.MaxHours) {
			return api.ErrValue
		}
	}
	return api.OK
}

// checkActs returns the first error of the acts of a ground.
func checkActs(g api.Ground) api.Errno {
	if len(g.Acts) > api.MaxActs {
		return api.ErrMany
	}
	before := 0
	for _, act := range g.Acts {
		if !isWithin(act.Hour, 0, api.MaxHours) {
			return api.ErrValue
		}
		if act.Hour < before {
			return api.ErrOrder
		}
		if e := checkAct(g, act); e != api.OK {
			return e
		}
		before = act.Hour
	}
	return api.OK
}

// checkAct returns the first error of an act whose hour is right.
func checkAct(g api.Ground, act api.Act) api.Errno {
	if !isWithin(act.Spot, 0, len(g.Spots)-1) || !isWithin(act.Sort, 0, len(g.Sorts)-1) {
		return api.ErrUnknown
	}
	if act.Take && act.Sort != 0 {
		return api.ErrForm
	}
	return span.Check(act.Mass, 1, api.MaxMass)
}

// checkLoad returns the first error of a ground, or of a load that is to be tipped there.
func checkLoad(g api.Ground, hour, sort, mass int) api.Errno {
	if e := Check(g); e != api.OK {
		return e
	}
	if !isWithin(hour, 0, api.MaxHours) {
		return api.ErrValue
	}
	if len(upTo(g.Acts, hour)) < len(g.Acts) {
		return api.ErrOrder
	}
	if !isWithin(sort, 0, len(g.Sorts)-1) {
		return api.ErrUnknown
	}
	if !isWithin(mass, 1, api.MaxMass) {
		return api.ErrValue
	}
	return api.OK
}
