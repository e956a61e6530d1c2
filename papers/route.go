package papers

import (
	"slices"

	"swarf/api"
)

// stop is a land on a way, and the day on which the trip is there.
type stop struct{ land, day int }

// route is a way of a trip, or the first lands of one.
type route []stop

// last returns the last stop of a route.
func (r route) last() stop { return r[len(r)-1] }

// lands returns the lands of a route, in their order.
func (r route) lands() []int {
	var list []int
	for _, s := range r {
		list = append(list, s.land)
	}
	return list
}

// passes tells whether a land is on a route.
func (r route) passes(land int) bool { return slices.Contains(r.lands(), land) }

// compare tells which one of two routes comes first in lexicographic order of their lands.
func (r route) compare(other route) int { return slices.Compare(r.lands(), other.lands()) }

// longer returns the routes that go on from a route by one road more, to lands that are not on it. Each one has memory of its own, as goroutines go on from them.
func (r route) longer(roads []api.Road) []route {
	var list []route
	from := r.last()
	for _, road := range roads {
		land, ok := otherEnd(road, from.land)
		if ok && !r.passes(land) {
			next := stop{land: land, day: from.day + road.Days}
			list = append(list, slices.Concat(r, route{next}))
		}
	}
	return list
}

// otherEnd returns the land to which a road leads from a land, if it does.
func otherEnd(road api.Road, land int) (int, bool) {
	switch land {
	case road.A:
		return road.B, true
	case road.B:
		return road.A, true
	}
	return 0, false
}

// routesOf returns all ways of a trip, in lexicographic order, or ErrState if there is none; or the error of the zone or the trip.
func routesOf(z api.Zone, t api.Trip) ([]route, api.Errno) {
	if e := CheckTrip(z, t); e != api.OK {
		return nil, e
	}
	routes := gather(beginnings(z, t), z.Roads, t.To)
	if len(routes) == 0 {
		return nil, api.ErrState
	}
	slices.SortFunc(routes, route.compare)
	return routes, api.OK
}

// beginnings returns the routes with which all ways of a trip begin.
func beginnings(z api.Zone, t api.Trip) []route {
	start := route{{land: t.From, day: t.Day}}
	if t.From == t.To {
		return []route{start}
	}
	return start.longer(z.Roads)
}

// gather returns all routes to a land that go on from some others, from each of which a goroutine of its own goes on.
func gather(begun []route, roads []api.Road, to int) []route {
	var walkers []<-chan route
	for _, r := range begun {
		walkers = append(walkers, walker(r, roads, to))
	}
	var routes []route
	for _, found := range walkers {
		for r := range found {
			routes = append(routes, r)
		}
	}
	return routes
}

// walker returns a channel on which a goroutine sends all routes to a land that go on from a route.
func walker(begun route, roads []api.Road, to int) <-chan route {
	found := make(chan route)
	go func() {
		defer close(found)
		walk(begun, roads, to, found)
	}()
	return found
}

// walk sends all routes to a land that go on from a route.
func walk(r route, roads []api.Road, to int, found chan<- route) {
	if r.last().land == to {
		found <- r
		return
	}
	for _, next := range r.longer(roads) {
		walk(next, roads, to, found)
	}
}
