package ship

import (
	"swarf/api"
	"swarf/span"
)

// checkBarge returns the first error of the numbers of a barge without its holds.
func checkBarge(v api.Voyage) api.Errno {
	isDraft := span.IsWithin(v.Light, 0, api.MaxDraft) && span.IsWithin(v.Under, 0, api.MaxDraft)
	if !isDraft || !span.IsWithin(v.Trim, 0, api.MaxDraft) {
		return api.ErrValue
	}
	return api.OK
}

// checkHolds returns the first error of the holds of a barge.
func checkHolds(holds []api.Hold) api.Errno {
	if e := span.Count(len(holds), 1, api.MaxHolds); e != api.OK {
		return e
	}
	for _, hold := range holds {
		isRate := span.IsWithin(hold.Bow, 0, api.MaxRate) && span.IsWithin(hold.Stern, 0, api.MaxRate)
		if !isRate || !span.IsWithin(hold.Room, 0, api.MaxRoom) {
			return api.ErrValue
		}
	}
	return api.OK
}

// checkSills returns the first error of the sills of a voyage.
func checkSills(sills []api.Sill) api.Errno {
	if e := span.Count(len(sills), 0, api.MaxSills); e != api.OK {
		return e
	}
	for _, sill := range sills {
		if e := span.Check(sill.Travel, 0, api.MaxClock); e != api.OK {
			return e
		}
		if e := checkLevels(sill.Levels); e != api.OK {
			return e
		}
	}
	return api.OK
}

// checkLevels returns the first error of the levels of a sill.
func checkLevels(levels []api.Level) api.Errno {
	if e := span.Count(len(levels), 1, api.MaxLevels); e != api.OK {
		return e
	}
	for at, level := range levels {
		if !span.IsWithin(level.From, 0, api.MaxClock) {
			return api.ErrValue
		}
		if at == 0 && level.From != 0 {
			return api.ErrForm
		}
		if at > 0 && level.From <= levels[at-1].From {
			return api.ErrOrder
		}
		if e := span.Check(level.Depth, 0, 2*api.MaxDraft); e != api.OK {
			return e
		}
	}
	return api.OK
}

// checkLots returns the first error of the lots of a voyage.
func checkLots(lots []api.Cargo) api.Errno {
	if e := span.Count(len(lots), 0, api.MaxCargo); e != api.OK {
		return e
	}
	for _, lot := range lots {
		if e := span.Check(lot.Tonnes, 0, api.MaxRoom); e != api.OK {
			return e
		}
		if !span.IsWithin(lot.Worth, 0, api.MaxWorth) {
			return api.ErrValue
		}
	}
	return api.OK
}
