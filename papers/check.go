package papers

import (
	"swarf/api"
	"swarf/span"
)

// isLand tells whether a zone has a land of that number.
func isLand(z api.Zone, land int) bool { return span.IsWithin(land, 0, z.Lands-1) }

// isCode tells whether there is waste of a code.
func isCode(code int) bool { return span.IsWithin(code, 0, api.MaxWaste) }

// isDate tells whether there is a day of that number.
func isDate(day int) bool { return span.IsWithin(day, 0, api.MaxDate) }

// checkRoads returns the first error of the roads of a zone.
func checkRoads(z api.Zone) api.Errno {
	if e := span.Count(len(z.Roads), 0, api.MaxRoads); e != api.OK {
		return e
	}
	for at, road := range z.Roads {
		if !isLand(z, road.A) || !isLand(z, road.B) {
			return api.ErrUnknown
		}
		if road.A == road.B {
			return api.ErrForm
		}
		if !span.IsWithin(road.Days, 0, api.MaxTravel) {
			return api.ErrValue
		}
		for _, before := range z.Roads[:at] {
			if joins(before, road.A, road.B) {
				return api.ErrRepeat
			}
		}
	}
	return api.OK
}

// joins tells whether a road joins two lands, in whatever order.
func joins(road api.Road, a, b int) bool {
	return road.A == a && road.B == b || road.A == b && road.B == a
}

// checkPapers returns the first error of the papers of a zone.
func checkPapers(z api.Zone) api.Errno {
	if e := span.Count(len(z.Papers), 0, api.MaxPapers); e != api.OK {
		return e
	}
	for _, paper := range z.Papers {
		if !isLand(z, paper.Land) {
			return api.ErrUnknown
		}
		if !isCode(paper.Code) {
			return api.ErrValue
		}
		if e := span.Check(api.Range{Min: paper.First, Max: paper.Last}, 0, api.MaxDate); e != api.OK {
			return e
		}
		if !span.IsWithin(paper.Kilos, 0, api.MaxKilos) {
			return api.ErrValue
		}
	}
	return api.OK
}
