package papers_test

import (
	"iter"
	"math/rand"
	"slices"
	"testing"

	"swarf/api"
	"swarf/papers"
)

// road and paper return a road and a paper.
func road(a, b, days int) api.Road { return api.Road{A: a, B: b, Days: days} }

func paper(land, code, first, last, kilos int) api.Paper {
	return api.Paper{Land: land, Code: code, First: first, Last: last, Kilos: kilos}
}

// zoneZ is Z of the chapter's examples.
func zoneZ() api.Zone {
	return api.Zone{
		Lands: 4,
		Roads: []api.Road{road(0, 1, 1), road(1, 2, 2), road(0, 3, 1), road(3, 2, 1)},
		Papers: []api.Paper{
			paper(0, 5, 0, 100, 5000),
			paper(1, 5, 0, 10, 3000),
			paper(1, 5, 0, 100, 2500),
			paper(2, 5, 0, 100, 9000),
			paper(3, 5, 20, 100, 4000),
		},
	}
}

// withZ returns Z with a change.
func withZ(change func(z *api.Zone)) api.Zone {
	z := zoneZ()
	change(&z)
	return z
}

// tripT is the trip t of the chapter's examples.
func tripT(day, kilos int) api.Trip { return api.Trip{From: 0, To: 2, Code: 5, Day: day, Kilos: kilos} }

// copyZone returns a copy that shares no memory.
func copyZone(z api.Zone) api.Zone {
	z.Roads, z.Papers = slices.Clone(z.Roads), slices.Clone(z.Papers)
	return z
}

// sameZone tells whether two zones are equal.
func sameZone(a, b api.Zone) bool {
	return a.Lands == b.Lands && slices.Equal(a.Roads, b.Roads) && slices.Equal(a.Papers, b.Papers)
}

// isEmpty tells whether nothing is said of a zone.
func isEmpty(z api.Zone) bool { return sameZone(z, api.Zone{}) }

// between returns a random number from low to high.
func between(r *rand.Rand, low, high int) int { return low + r.Intn(high-low+1) }

// landLists hands out all lists of lands in which none is twice and that begin with one of them, in lexicographic order.
func landLists(lands, first int) iter.Seq[[]int] {
	return func(yield func([]int) bool) {
		var longer func(list []int) bool
		longer = func(list []int) bool {
			if !yield(list) {
				return false
			}
			for land := range lands {
				if !slices.Contains(list, land) && !longer(append(slices.Clone(list), land)) {
					return false
				}
			}
			return true
		}
		longer([]int{first})
	}
}

// daysOf returns on which days a trip is in the lands of a list, if a road leads from each one to the next.
func daysOf(z api.Zone, t api.Trip, list []int) ([]int, bool) {
	days := []int{t.Day}
	for at := 1; at < len(list); at++ {
		isRoad := func(r api.Road) bool {
			return r == road(list[at-1], list[at], r.Days) || r == road(list[at], list[at-1], r.Days)
		}
		which := slices.IndexFunc(z.Roads, isRoad)
		if which < 0 {
			return nil, false
		}
		days = append(days, days[at-1]+z.Roads[which].Days)
	}
	return days, true
}

// ways hands out all ways of a trip, in lexicographic order, with the days on which it is in their lands.
func ways(z api.Zone, t api.Trip) iter.Seq2[[]int, []int] {
	return func(yield func(way, days []int) bool) {
		for list := range landLists(z.Lands, t.From) {
			if list[len(list)-1] != t.To {
				continue
			}
			if days, ok := daysOf(z, t, list); ok && !yield(list, days) {
				return
			}
		}
	}
}

// countingIn returns the papers that count in a land on a day.
func countingIn(z api.Zone, t api.Trip, land, day int) []int {
	var list []int
	for number, p := range z.Papers {
		if p.Land == land && p.Code == t.Code && p.First <= day && day <= p.Last {
			list = append(list, number)
		}
	}
	return list
}

// kilosOf returns the kilograms of a list of papers.
func kilosOf(z api.Zone, list []int) int {
	sum := 0
	for _, number := range list {
		sum += z.Papers[number].Kilos
	}
	return sum
}

// isBefore tells whether a list is shorter than another one, or as long and first in lexicographic order.
func isBefore(a, b []int) bool {
	return len(a) < len(b) || len(a) == len(b) && slices.Compare(a, b) < 0
}

// papersIn returns the papers of a land by looking at all lists of papers that count in it on a day; nil if it is not covered.
func papersIn(z api.Zone, t api.Trip, land, day int) []int {
	var best []int
	counting := countingIn(z, t, land, day)
	for which := range 1 << len(counting) {
		var list []int
		for i, number := range counting {
			if which>>i&1 == 1 {
				list = append(list, number)
			}
		}
		if kilosOf(z, list) >= t.Kilos && (best == nil || isBefore(list, best)) {
			best = list
		}
	}
	return best
}

// gapsOf returns the lands of a way that are not covered, ascending.
func gapsOf(z api.Zone, t api.Trip, way, days []int) []int {
	var list []int
	for at, land := range way {
		if kilosOf(z, countingIn(z, t, land, days[at])) < t.Kilos {
			list = append(list, land)
		}
	}
	slices.Sort(list)
	return list
}

// found is what Complete has to return; count is how many complete ways need as few papers, and ties how many of them are as soon.
type found struct {
	way, papers []int
	day         int
	e           api.Errno
	count, ties int
}

// add adds a complete way.
func (f *found) add(way, papers []int, day int) {
	if f.e != api.OK || len(papers) < len(f.papers) {
		*f = found{way: way, papers: papers, day: day, count: 1, ties: 1}
		return
	}
	if len(papers) > len(f.papers) {
		return
	}
	f.count++
	switch {
	case day < f.day:
		f.way, f.papers, f.day, f.ties = way, papers, day, 1
	case day == f.day:
		f.ties++
	}
}

// bestOf returns what Complete has to, by looking at all ways and all lists of papers.
func bestOf(z api.Zone, t api.Trip) found {
	best := found{e: api.ErrState}
	for way, days := range ways(z, t) {
		if best.e == api.ErrState {
			best.e = api.ErrPaper
		}
		if gapsOf(z, t, way, days) != nil {
			continue
		}
		var list []int
		for at, land := range way {
			list = append(list, papersIn(z, t, land, days[at])...)
		}
		slices.Sort(list)
		best.add(way, list, days[len(days)-1])
	}
	return best
}

// isComplete tells whether a trip is complete.
func isComplete(z api.Zone, t api.Trip) bool {
	for way, days := range ways(z, t) {
		if gapsOf(z, t, way, days) == nil {
			return true
		}
	}
	return false
}

// hasWay tells whether a trip has a way.
func hasWay(z api.Zone, t api.Trip) bool {
	for range ways(z, t) {
		return true
	}
	return false
}

// size is how many lands, roads and papers a random zone has at most, and on which day its days begin.
type size struct{ lands, roads, papers, day int }

// small is the size of zones of which all is looked at; large is the greatest one; late is that of zones on the last days.
var (
	small = size{lands: 5, roads: 8, papers: 8}
	large = size{lands: 6, roads: 12, papers: 12}
	late  = size{lands: 5, roads: 8, papers: 9, day: 1970}
)

// randomZone returns a random valid zone, with papers of few codes.
func randomZone(r *rand.Rand, s size) api.Zone {
	z := api.Zone{Lands: between(r, (s.lands+1)/2, s.lands)}
	for a := range z.Lands {
		for b := range a {
			z.Roads = append(z.Roads, road(a, b, r.Intn(4)))
		}
	}
	r.Shuffle(len(z.Roads), func(i, j int) { z.Roads[i], z.Roads[j] = z.Roads[j], z.Roads[i] })
	z.Roads = z.Roads[:min(len(z.Roads), between(r, s.roads/2, s.roads))]
	for i := range z.Roads {
		if r.Intn(2) == 0 {
			z.Roads[i].A, z.Roads[i].B = z.Roads[i].B, z.Roads[i].A
		}
	}
	isLong := r.Intn(2) == 0
	for number := range between(r, s.papers/2, s.papers) {
		// Most lands have papers, so that many ways are complete.
		p := paper(number%z.Lands, r.Intn(12)/11, s.day, s.day+30, between(r, 1, 5))
		if !isLong {
			p = paper(r.Intn(z.Lands), r.Intn(12)/11, s.day+r.Intn(8), s.day+8+r.Intn(20), r.Intn(9))
		}
		z.Papers = append(z.Papers, p)
	}
	r.Shuffle(len(z.Papers), func(i, j int) { z.Papers[i], z.Papers[j] = z.Papers[j], z.Papers[i] })
	return z
}

// randomTrip returns a random valid trip through a zone of a size.
func randomTrip(r *rand.Rand, z api.Zone, s size) api.Trip {
	return api.Trip{From: r.Intn(z.Lands), To: r.Intn(z.Lands), Code: r.Intn(12) / 11, Day: s.day + r.Intn(12), Kilos: between(r, 1, 5)}
}

// randomCase returns a random zone, and a trip through it for which there often is no road that leads all the way.
func randomCase(r *rand.Rand, s size) (api.Zone, api.Trip) {
	z := randomZone(r, s)
	trip := randomTrip(r, z, s)
	if trip.From == trip.To {
		trip.To = r.Intn(z.Lands)
	}
	if r.Intn(4) > 0 {
		z.Roads = slices.DeleteFunc(z.Roads, func(x api.Road) bool {
			return x == road(trip.From, trip.To, x.Days) || x == road(trip.To, trip.From, x.Days)
		})
	}
	return z, trip
}

// with returns a zone with more papers.
func with(z api.Zone, more ...api.Paper) api.Zone {
	z = copyZone(z)
	z.Papers = append(z.Papers, more...)
	return z
}

// forTrip returns a paper of a land for all of a trip, on any day.
func forTrip(t api.Trip, land int) api.Paper { return paper(land, t.Code, 0, api.MaxDate, t.Kilos) }

// checkComplete compares what Complete returns with what it has to.
func checkComplete(t *testing.T, z api.Zone, trip api.Trip, want found) {
	t.Helper()
	way, list, day, e := papers.Complete(z, trip)
	if !slices.Equal(way, want.way) || !slices.Equal(list, want.papers) || day != want.day || e != want.e {
		t.Fatalf("%v, %v: %v %v %d %d, not %v %v %d %d", z, trip, way, list, day, e, want.way, want.papers, want.day, want.e)
	}
}

// mustMost returns what Most does, which must be without an error.
func mustMost(t *testing.T, z api.Zone, trip api.Trip) int {
	t.Helper()
	kilos, e := papers.Most(z, trip)
	if e != api.OK {
		t.Fatalf("%v, %v: Most %d", z, trip, e)
	}
	return kilos
}

// mustSoonest returns what Soonest does, which must be without an error, or late; a day after all days if it is late.
func mustSoonest(t *testing.T, z api.Zone, trip api.Trip) int {
	t.Helper()
	day, e := papers.Soonest(z, trip)
	if e == api.ErrLate && day == 0 {
		return api.MaxDate + 1
	}
	if e != api.OK {
		t.Fatalf("%v, %v: Soonest %d %d", z, trip, day, e)
	}
	return day
}
