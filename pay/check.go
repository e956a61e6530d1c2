package pay

import (
	"swarf/api"
	"swarf/span"
)

// isName tells whether a till has a name of that number.
func isName(t api.Till, name int) bool { return span.IsWithin(name, 0, t.Names-1) }

// isDay tells whether there is a day of that number.
func isDay(day int) bool { return span.IsWithin(day, 0, api.MaxDay) }

// isCents tells whether so many cents may be paid or limited.
func isCents(cents int) bool { return span.IsWithin(cents, 0, api.MaxCents) }

// isLots tells whether so many lots may be sold ahead.
func isLots(lots int) bool { return span.IsWithin(lots, 0, api.MaxLots) }

// checkLinks returns the first error of the links of a till.
func checkLinks(t api.Till) api.Errno {
	if e := span.Count(len(t.Links), 0, api.MaxLinks); e != api.OK {
		return e
	}
	for at, link := range t.Links {
		if !isName(t, link.A) || !isName(t, link.B) {
			return api.ErrUnknown
		}
		if link.A == link.B {
			return api.ErrForm
		}
		for _, before := range t.Links[:at] {
			if isOfSame(link, before) {
				return api.ErrRepeat
			}
		}
	}
	return api.OK
}

// isOfSame tells whether two links are of the same two names.
func isOfSame(a, b api.Link) bool {
	return a.A == b.A && a.B == b.B || a.A == b.B && a.B == b.A
}

// checkDues returns the first error of the dues of a till.
func checkDues(t api.Till) api.Errno {
	if e := span.Count(len(t.Dues), 0, api.MaxDues); e != api.OK {
		return e
	}
	for at, due := range t.Dues {
		if !isDay(due.Day) {
			return api.ErrValue
		}
		if at > 0 && due.Day < t.Dues[at-1].Day {
			return api.ErrOrder
		}
		if !isName(t, due.Name) {
			return api.ErrUnknown
		}
		if !isCents(due.Cents) {
			return api.ErrValue
		}
	}
	return api.OK
}

// checkNameDay returns the first error of a till, or of a name of it and a day.
func checkNameDay(t api.Till, name, day int) api.Errno {
	if e := Check(t); e != api.OK {
		return e
	}
	if !isName(t, name) {
		return api.ErrUnknown
	}
	if !isDay(day) {
		return api.ErrValue
	}
	return api.OK
}

// checkFixes returns the first error of fixes.
func checkFixes(fixes []api.Fix) api.Errno {
	if e := span.Count(len(fixes), 0, api.MaxFixes); e != api.OK {
		return e
	}
	for at, fix := range fixes {
		if !isDay(fix.Day) || !isCents(fix.Cents) {
			return api.ErrValue
		}
		if at > 0 && fix.Day <= fixes[at-1].Day {
			return api.ErrOrder
		}
	}
	return api.OK
}

// checkHedge returns the first error of a hedge.
func checkHedge(h api.Hedge) api.Errno {
	if e := span.Count(len(h.Stock), 1, api.MaxDays); e != api.OK {
		return e
	}
	for _, stock := range h.Stock {
		if e := span.Check(stock, 0, api.MaxStock); e != api.OK {
			return e
		}
	}
	if !span.IsWithin(h.Lot, 1, api.MaxStock) || !span.IsWithin(h.Bound, 0, api.MaxStock) || !isLots(h.Held) {
		return api.ErrValue
	}
	return api.OK
}

// checkPlan returns the first error of a plan of a hedge.
func checkPlan(h api.Hedge, plan []int) api.Errno {
	if len(plan) != len(h.Stock) {
		return api.ErrForm
	}
	for _, lots := range plan {
		if !isLots(lots) {
			return api.ErrValue
		}
	}
	return api.OK
}
