package papers

import (
	"cmp"
	"errors"
	"slices"

	"swarf/api"
)

// request is that so many kilograms go, by the papers of a registry.
type request struct {
	papers registry
	kilos  int
}

// requestOf returns the request of a trip.
func requestOf(z api.Zone, t api.Trip) request {
	return request{papers: cabinet{papers: z.Papers, code: t.Code}, kilos: t.Kilos}
}

// later returns the same request for a trip that begins so many days later.
func (r request) later(days int) request {
	r.papers = delayed{papers: r.papers, days: days}
	return r
}

// cover returns the error uncovered if a land is not covered on the day of a stop.
func (r request) cover(s stop) error {
	kilos := 0
	for _, c := range r.papers.counting(s) {
		kilos += c.kilos
	}
	if kilos < r.kilos {
		return uncovered{land: s.land, kilos: kilos}
	}
	return nil
}

// isComplete tells whether a way is complete.
func (r request) isComplete(way route) bool {
	return !slices.ContainsFunc(way, func(s stop) bool { return r.cover(s) != nil })
}

// gaps returns the lands of a way that are not covered.
func (r request) gaps(way route) []uncovered {
	var list []uncovered
	for _, s := range way {
		var gap uncovered
		if errors.As(r.cover(s), &gap) {
			list = append(list, gap)
		}
	}
	return list
}

// missing returns the lands of a way that are not covered, ascending.
func (r request) missing(way route) []int {
	var lands []int
	for _, gap := range r.gaps(way) {
		lands = append(lands, gap.land)
	}
	slices.Sort(lands)
	return lands
}

// most returns the greatest number of kilograms, up to those that are to go, with which a way is complete.
func (r request) most(way route) int {
	kilos := r.kilos
	for _, gap := range r.gaps(way) {
		kilos = min(kilos, gap.kilos)
	}
	return kilos
}

// plan is a complete way, and its papers.
type plan struct {
	route  route
	papers []int
}

// compare tells which one of two plans needs fewer papers, or as many and is sooner at its end.
func (p plan) compare(other plan) int {
	return cmp.Or(cmp.Compare(len(p.papers), len(other.papers)), cmp.Compare(p.route.last().day, other.route.last().day))
}

// planOf returns the plan of a complete way.
func (r request) planOf(way route) plan {
	p := plan{route: way}
	for _, s := range way {
		p.papers = append(p.papers, fewest(r.papers.counting(s), r.kilos)...)
	}
	slices.Sort(p.papers)
	return p
}

// bestPlan returns the best plan of ways, which are in lexicographic order, if one of them is complete.
func bestPlan(ways []route, r request) (plan, bool) {
	var plans []plan
	for _, way := range ways {
		if r.isComplete(way) {
			plans = append(plans, r.planOf(way))
		}
	}
	if len(plans) == 0 {
		return plan{}, false
	}
	// Of several that are equally good it is the first one.
	return slices.MinFunc(plans, plan.compare), true
}

// compareLists tells which one of two lists is shorter, or as long and comes first in lexicographic order.
func compareLists(a, b []int) int {
	return cmp.Or(cmp.Compare(len(a), len(b)), slices.Compare(a, b))
}
