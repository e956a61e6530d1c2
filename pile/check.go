package pile

import (
	"swarf/api"
	"swarf/span"
)

// checkSpots returns the first error of the spots of a ground.
func checkSpots(spots []api.Spot) api.Errno {
	if e := span.Count(len(spots), 1, api.MaxSpots); e != api.OK {
		return e
	}
	for _, spot := range spots {
		isPlace := span.IsWithin(spot.X, 0, api.MaxReach) && span.IsWithin(spot.Y, 0, api.MaxReach)
		if !isPlace || !span.IsWithin(spot.Area, 1, api.MaxArea) {
			return api.ErrValue
		}
	}
	return api.OK
}

// checkSorts returns the first error of the sorts of a ground.
func checkSorts(sorts []api.Sort) api.Errno {
	if e := span.Count(len(sorts), 1, api.MaxSorts); e != api.OK {
		return e
	}
	for _, sort := range sorts {
		isHeap := span.IsWithin(sort.High, 1, api.MaxHigh) && span.IsWithin(sort.Dense, 1, api.MaxDense)
		if !isHeap || !span.IsWithin(sort.Fire, 0, api.MaxFire) || !span.IsWithin(sort.Age, 0, api.MaxHours) {
			return api.ErrValue
		}
	}
	return api.OK
}

// checkActs returns the first error of the acts of a ground.
func checkActs(g api.Ground) api.Errno {
	if len(g.Acts) > api.MaxActs {
		return api.ErrMany
	}
	before := 0
	for _, act := range g.Acts {
		if !span.IsWithin(act.Hour, 0, api.MaxHours) {
			return api.ErrValue
		}
		if act.Hour < before {
			return api.ErrOrder
		}
		if e := checkAct(g, act); e != api.OK {
			return e
		}
		before = act.Hour
	}
	return api.OK
}

// checkAct returns the first error of an act whose hour is right.
func checkAct(g api.Ground, act api.Act) api.Errno {
	if !span.IsWithin(act.Spot, 0, len(g.Spots)-1) || !span.IsWithin(act.Sort, 0, len(g.Sorts)-1) {
		return api.ErrUnknown
	}
	if act.Take && act.Sort != 0 {
		return api.ErrForm
	}
	return span.Check(act.Mass, 1, api.MaxMass)
}

// checkLoad returns the first error of a ground, or of a load that is to be tipped there.
func checkLoad(g api.Ground, hour, sort, mass int) api.Errno {
	if e := Check(g); e != api.OK {
		return e
	}
	if !span.IsWithin(hour, 0, api.MaxHours) {
		return api.ErrValue
	}
	if len(upTo(g.Acts, hour)) < len(g.Acts) {
		return api.ErrOrder
	}
	if !span.IsWithin(sort, 0, len(g.Sorts)-1) {
		return api.ErrUnknown
	}
	if !span.IsWithin(mass, 1, api.MaxMass) {
		return api.ErrValue
	}
	return api.OK
}
