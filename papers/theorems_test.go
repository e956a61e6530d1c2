package papers_test

import (
	"math/rand"
	"slices"
	"testing"

	"swarf/api"
	"swarf/mix"
	"swarf/papers"
	"swarf/pay"
)

// TestP9_6Covered: in each land of the way of Complete the papers count on the day on which the trip is there, and have, together, the kilograms that are moved; without one of them they have not.
func TestP9_6Covered(t *testing.T) {
	r := rand.New(rand.NewSource(6))
	complete, several := 0, 0
	for range 8000 {
		z, trip := randomCase(r, large)
		way, list, day, e := papers.Complete(z, trip)
		if e != api.OK {
			continue
		}
		complete++
		days, ok := daysOf(z, trip, way)
		if !ok || days[len(days)-1] != day || way[0] != trip.From || way[len(way)-1] != trip.To || !slices.IsSorted(list) {
			t.Fatalf("%v, %v: %v %v %d", z, trip, way, list, day)
		}
		kilos, least := make(map[int]int), make(map[int]int)
		for _, number := range list {
			p := z.Papers[number]
			at := slices.Index(way, p.Land)
			if at < 0 || p.Code != trip.Code || days[at] < p.First || days[at] > p.Last {
				t.Fatalf("%v, %v: %v by %v, but %d does not count", z, trip, way, list, number)
			}
			if kilos[p.Land] > 0 {
				several++
				least[p.Land] = min(least[p.Land], p.Kilos)
			} else {
				least[p.Land] = p.Kilos
			}
			kilos[p.Land] += p.Kilos
		}
		for _, land := range way {
			if kilos[land] < trip.Kilos || kilos[land]-least[land] >= trip.Kilos {
				t.Fatalf("%v, %v: %v by %v, but %v in %d", z, trip, way, list, kilos, land)
			}
		}
	}
	if complete < 1000 || several < 500 {
		t.Error("too few trips were looked at", complete, several)
	}
}

// TestP9_7Best: no complete way needs fewer papers, or as many and is later, or comes later in order: all ways, and all lists of papers, are looked at.
func TestP9_7Best(t *testing.T) {
	for _, c := range []struct {
		name                            string
		size                            size
		times                           int
		complete, other, several, equal int
	}{
		{"small", small, 10000, 2000, 2000, 300, 50},
		{"large", large, 5000, 1500, 1000, 500, 100},
		{"late", late, 5000, 1000, 1000, 100, 10},
	} {
		r := rand.New(rand.NewSource(7))
		complete, other, several, equal := 0, 0, 0, 0
		for range c.times {
			z, trip := randomCase(r, c.size)
			want := bestOf(z, trip)
			checkComplete(t, z, trip, want)
			if want.e != api.OK {
				other++
				continue
			}
			complete++
			if want.count > 1 {
				several++
			}
			if want.ties > 1 {
				equal++
			}
		}
		if complete < c.complete || other < c.other || several < c.several || equal < c.equal {
			t.Error("too few zones were looked at", c.name, complete, other, several, equal)
		}
	}
}

// TestP9_8Soonest: on the day of Soonest the trip is complete, on no day before; and if it is late, on none.
func TestP9_8Soonest(t *testing.T) {
	for _, s := range []size{small, late} {
		r := rand.New(rand.NewSource(8))
		now, later, none := 0, 0, 0
		for range 3000 {
			z, trip := randomCase(r, s)
			if !hasWay(z, trip) {
				continue
			}
			want := trip
			// No paper of such a zone counts on a later day.
			for want.Day <= min(s.day+40, api.MaxDate) && !isComplete(z, want) {
				want.Day++
			}
			day, e := papers.Soonest(z, trip)
			if want.Day > min(s.day+40, api.MaxDate) {
				none++
				if day != 0 || e != api.ErrLate {
					t.Fatalf("%v, %v: %d %d, but it is late", z, trip, day, e)
				}
				continue
			}
			if day != want.Day || e != api.OK {
				t.Fatalf("%v, %v: %d %d, not %d", z, trip, day, e, want.Day)
			}
			if _, _, _, e := papers.Complete(z, want); e != api.OK {
				t.Fatalf("%v, %v: soonest, but %d", z, want, e)
			}
			if day > trip.Day {
				later++
			} else {
				now++
			}
		}
		if now < 300 || later < 100 || none < 300 {
			t.Error("too few trips were looked at", s, now, later, none)
		}
	}
}

// TestP9_8Most: with the kilograms of Most the trip is complete, and with one more it is not.
func TestP9_8Most(t *testing.T) {
	r := rand.New(rand.NewSource(81))
	none, some, all := 0, 0, 0
	for range 5000 {
		z, trip := randomCase(r, small)
		trip.Kilos = between(r, 1, 15)
		if !hasWay(z, trip) {
			continue
		}
		most := mustMost(t, z, trip)
		if most < 0 || most > trip.Kilos {
			t.Fatalf("%v, %v: %d", z, trip, most)
		}
		checkMost(t, z, trip, most)
		switch most {
		case 0:
			none++
		case trip.Kilos:
			all++
		default:
			some++
		}
	}
	if none < 500 || some < 500 || all < 500 {
		t.Error("too few trips were looked at", none, some, all)
	}
}

// checkMost checks that a trip is complete with so many kilograms, and not with one more.
func checkMost(t *testing.T, z api.Zone, trip api.Trip, most int) {
	t.Helper()
	some, more := trip, trip
	some.Kilos, more.Kilos = most, most+1
	_, _, _, e := papers.Complete(z, some)
	if most > 0 && (e != api.OK || !isComplete(z, some)) {
		t.Fatalf("%v, %v: %d are too many: %d", z, trip, most, e)
	}
	_, _, _, e = papers.Complete(z, more)
	if most < trip.Kilos && (e != api.ErrPaper || isComplete(z, more)) {
		t.Fatalf("%v, %v: %d are not the most: %d", z, trip, most, e)
	}
}

// TestP9_9Missing: if all lands of Missing get a paper for the trip, it is complete; and no fewer lands do, nor as many that come before: all ways are looked at.
func TestP9_9Missing(t *testing.T) {
	r := rand.New(rand.NewSource(9))
	none, one, several, equal := 0, 0, 0, 0
	for range 4000 {
		z := randomZone(r, small)
		z.Papers = z.Papers[:min(len(z.Papers), 5)]
		trip := randomTrip(r, z, small)
		if !hasWay(z, trip) {
			continue
		}
		list, e := papers.Missing(z, trip)
		if e != api.OK {
			t.Fatalf("%v, %v: %d", z, trip, e)
		}
		ties := 0
		for way, days := range ways(z, trip) {
			gaps := gapsOf(z, trip, way, days)
			if isBefore(gaps, list) {
				t.Fatalf("%v, %v: %v, but %v on %v", z, trip, list, gaps, way)
			}
			if len(gaps) == len(list) && !slices.Equal(gaps, list) {
				ties++
			}
		}
		checkHelps(t, z, trip, list)
		switch len(list) {
		case 0:
			none++
		case 1:
			one++
		default:
			several++
		}
		if ties > 0 {
			equal++
		}
	}
	if none < 500 || one < 500 || several < 500 || equal < 100 {
		t.Error("too few trips were looked at", none, one, several, equal)
	}
}

// checkHelps checks that a trip is complete if some lands get a paper for it, but not if fewer lands do.
func checkHelps(t *testing.T, z api.Zone, trip api.Trip, lands []int) {
	t.Helper()
	for which := range 1 << z.Lands {
		helped, count := copyZone(z), 0
		isAll := true
		for land := range z.Lands {
			isHelped := which>>land&1 == 1
			if isHelped {
				helped.Papers = append(helped.Papers, forTrip(trip, land))
				count++
			}
			isAll = isAll && isHelped == slices.Contains(lands, land)
		}
		_, _, _, e := papers.Complete(helped, trip)
		if isAll && e != api.OK || count < len(lands) && e != api.ErrPaper {
			t.Fatalf("%v, %v: %v are missing, but with papers of the lands %b: %d", z, trip, lands, which, e)
		}
	}
}

// booking is what Book has to return.
type booking struct {
	left    []int
	replies []api.Errno
}

// bookAll books trips kilogram by kilogram.
func bookAll(z api.Zone, trips []api.Trip) booking {
	var b booking
	z = copyZone(z)
	for _, trip := range trips {
		e := papers.CheckTrip(z, trip)
		if e == api.OK {
			best := bestOf(z, trip)
			e = best.e
			for _, land := range best.way {
				for range trip.Kilos {
					takeOne(z.Papers, best.papers, land)
				}
			}
		}
		b.replies = append(b.replies, e)
	}
	for _, p := range z.Papers {
		b.left = append(b.left, p.Kilos)
	}
	return b
}

// takeOne takes a kilogram from the first paper of a list that is of a land and has one.
func takeOne(all []api.Paper, list []int, land int) {
	for _, number := range list {
		if all[number].Land == land && all[number].Kilos > 0 {
			all[number].Kilos--
			return
		}
	}
	panic("no paper has a kilogram")
}

// randomTrips returns some random trips through a zone of a size, a few of them not valid.
func randomTrips(r *rand.Rand, z api.Zone, s size, most int) []api.Trip {
	var trips []api.Trip
	for range r.Intn(most + 1) {
		trip := randomTrip(r, z, s)
		trip.Kilos = between(r, 0, 4)
		trips = append(trips, trip)
	}
	return trips
}

// TestP9_10Booked: each kilogram that is booked is taken from a paper in each land of its way, once; no paper has less than nothing; a trip that is refused changes nothing.
func TestP9_10Booked(t *testing.T) {
	r := rand.New(rand.NewSource(10))
	booked, refused, again := 0, 0, 0
	for range 2000 {
		z := randomZone(r, small)
		trips := randomTrips(r, z, small, 8)
		want := bookAll(z, trips)
		left, replies, e := papers.Book(z, trips)
		if e != api.OK || !slices.Equal(left, want.left) || !slices.Equal(replies, want.replies) {
			t.Fatalf("%v, %v: %v %v %d, not %v", z, trips, left, replies, e, want)
		}
		var good []api.Trip
		for at, reply := range replies {
			if reply == api.OK {
				good = append(good, trips[at])
			}
		}
		booked += len(good)
		refused += len(trips) - len(good)
		if len(good) > 1 {
			again++
		}
		if left[len(left)-1] < 0 || slices.Min(left) < 0 {
			t.Fatalf("%v, %v: %v", z, trips, left)
		}
		if other, _, e := papers.Book(z, good); e != api.OK || !slices.Equal(other, left) {
			t.Fatalf("%v, %v: %v, but without what is refused %v %d", z, trips, left, other, e)
		}
	}
	if booked < 1000 || refused < 1000 || again < 300 {
		t.Error("too few trips were looked at", booked, refused, again)
	}
}

// TestP9_10Taken: what one trip takes is its kilograms for each land of its way, from the papers of Complete alone.
func TestP9_10Taken(t *testing.T) {
	r := rand.New(rand.NewSource(101))
	booked := 0
	for range 5000 {
		z, trip := randomCase(r, large)
		way, list, _, e := papers.Complete(z, trip)
		left, replies, f := papers.Book(z, []api.Trip{trip})
		if f != api.OK || len(replies) != 1 || replies[0] != e || len(left) != len(z.Papers) {
			t.Fatalf("%v, %v: %v %v %d, but %d", z, trip, left, replies, f, e)
		}
		taken := make(map[int]int)
		for number, p := range z.Papers {
			if left[number] < 0 || left[number] > p.Kilos || left[number] != p.Kilos && !slices.Contains(list, number) {
				t.Fatalf("%v, %v: %v by %v", z, trip, left, list)
			}
			taken[p.Land] += p.Kilos - left[number]
		}
		for land := range z.Lands {
			want := 0
			if slices.Contains(way, land) {
				want = trip.Kilos
			}
			if taken[land] != want {
				t.Fatalf("%v, %v: %v taken on %v", z, trip, taken, way)
			}
		}
		if e == api.OK {
			booked++
		}
	}
	if booked < 1000 {
		t.Error("too few trips were looked at", booked)
	}
}

// more returns a zone with one paper more, or more kilograms on one.
func more(r *rand.Rand, z api.Zone) api.Zone {
	if len(z.Papers) > 0 && r.Intn(2) == 0 {
		z = copyZone(z)
		z.Papers[r.Intn(len(z.Papers))].Kilos += between(r, 1, 5)
		return z
	}
	return with(z, paper(r.Intn(z.Lands), r.Intn(12)/11, r.Intn(9), 8+r.Intn(20), r.Intn(9)))
}

// TestP9_11MorePapers: with one more paper, or more kilograms on one, a trip that is complete still is, with no more papers, and Soonest is not later, nor Most less.
func TestP9_11MorePapers(t *testing.T) {
	r := rand.New(rand.NewSource(11))
	completed, fewer, sooner, greater := 0, 0, 0, 0
	for range 5000 {
		z, trip := randomCase(r, small)
		if !hasWay(z, trip) {
			continue
		}
		y := more(r, z)
		_, old, _, e := papers.Complete(z, trip)
		_, list, _, f := papers.Complete(y, trip)
		if e == api.OK && (f != api.OK || len(list) > len(old)) {
			t.Fatalf("%v, %v: by %v; but %v: by %v %d", z, trip, old, y, list, f)
		}
		day, next := mustSoonest(t, z, trip), mustSoonest(t, y, trip)
		most, now := mustMost(t, z, trip), mustMost(t, y, trip)
		if next > day || now < most {
			t.Fatalf("%v, %v: %d %d; but %v: %d %d", z, trip, day, most, y, next, now)
		}
		switch {
		case e != f:
			completed++
		case len(list) < len(old):
			fewer++
		}
		if next < day {
			sooner++
		}
		if now > most {
			greater++
		}
	}
	if completed < 100 || fewer < 30 || sooner < 100 || greater < 100 {
		t.Error("too few papers were of use", completed, fewer, sooner, greater)
	}
}

// TestP9_12Apart: trips of other codes do not disturb each other: if two trips in a row have other codes, their order does not matter.
func TestP9_12Apart(t *testing.T) {
	r := rand.New(rand.NewSource(12))
	both := 0
	for range 8000 {
		z := randomZone(r, large)
		for i := range z.Papers {
			z.Papers[i].Code = r.Intn(2)
		}
		trips := append(randomTrips(r, z, large, 4), randomTrip(r, z, large), randomTrip(r, z, large))
		at := r.Intn(len(trips) - 1)
		trips[at].Code = 1 - trips[at+1].Code
		turned := slices.Clone(trips)
		turned[at], turned[at+1] = turned[at+1], turned[at]
		left, replies, e := papers.Book(z, trips)
		other, answers, f := papers.Book(z, turned)
		answers[at], answers[at+1] = answers[at+1], answers[at]
		if e != api.OK || f != api.OK || !slices.Equal(left, other) || !slices.Equal(replies, answers) {
			t.Fatalf("%v, %v: %v %v %d; but turned round %v %v %d", z, trips, left, replies, e, other, answers, f)
		}
		if replies[at] == api.OK && replies[at+1] == api.OK {
			both++
		}
	}
	if both < 200 {
		t.Error("too few trips were looked at", both)
	}
}

// fraction is a load that was sorted and weighed, one of its fractions, and what that truly weighs.
type fraction struct {
	load   api.Load
	number int
	kilos  int
}

// around returns a random range of kilograms that has n in it.
func around(r *rand.Rand, n, wide int) api.Range {
	return api.Range{Min: max(0, n-r.Intn(wide+1)), Max: n + r.Intn(wide+1)}
}

// sorted returns a random fraction of a load of two materials, of which the first one was pulled.
func sorted(r *rand.Rand) fraction {
	steel, dirt := between(r, 2, 9), r.Intn(6)
	lost, astray := r.Intn(2), r.Intn(min(dirt, 2)+1)
	truth := []int{steel + dirt, steel - lost + astray, lost + dirt - astray}
	f := fraction{load: api.Load{
		Stuffs: []api.Range{around(r, steel, 4), around(r, dirt, 4)},
		Splits: []api.Split{{Pulls: []bool{true, false}, Wrong: []int{lost + r.Intn(2), astray + r.Intn(2)}}},
	}}
	for number, kilos := range truth {
		if r.Intn(2) == 0 {
			f.load.Weighed = append(f.load.Weighed, api.Weighed{Fraction: number, Kilos: around(r, kilos, 2)})
		}
	}
	f.number = r.Intn(3)
	f.kilos = truth[f.number]
	return f
}

// dayPaid returns the day by which a seller is paid in cash for so many kilograms, from a day on.
func dayPaid(t *testing.T, till api.Till, day, kilos int) int {
	t.Helper()
	worth, e := pay.Value([]api.Fix{{Cents: 200000}}, day, api.Range{Min: kilos, Max: kilos}, 1000)
	if e != api.OK {
		t.Fatal(kilos, e)
	}
	paid, e := pay.Soonest(till, 0, day, worth.Max)
	if e != api.OK {
		t.Fatal(till, worth, e)
	}
	return paid
}

// moved is what is told of the trip of a fraction.
type moved struct {
	papers  []int
	soonest int
	e       api.Errno
}

// move returns what is told of a trip that begins when its kilograms are paid.
func move(t *testing.T, z api.Zone, till api.Till, trip api.Trip, kilos int) moved {
	t.Helper()
	trip.Kilos = kilos
	var m moved
	_, m.papers, _, m.e = papers.Complete(z, trip)
	trip.Day = dayPaid(t, till, trip.Day, kilos)
	m.soonest = mustSoonest(t, z, trip)
	return m
}

// TestT7Moved: a fraction whose papers are for all that it may weigh is complete with what it truly weighs, with no more papers, and no later, even if it only goes when it is paid.
func TestT7Moved(t *testing.T) {
	r := rand.New(rand.NewSource(77))
	complete, fewer, sooner, less := 0, 0, 0, 0
	for range 5000 {
		f := sorted(r)
		weights, e := mix.Weights(f.load)
		if e != api.OK || f.kilos > weights[f.number].Max {
			t.Fatalf("%v may be: %v %d", f, weights, e)
		}
		most := weights[f.number].Max
		if f.kilos < 1 {
			continue
		}
		z := randomZone(r, small)
		for i := range z.Papers {
			z.Papers[i].Kilos *= 3
		}
		trip := randomTrip(r, z, small)
		if !hasWay(z, trip) {
			continue
		}
		till := api.Till{Names: 1, Limit: between(r, 500, 3000), Window: between(r, 1, 3), Dues: []api.Due{{Day: 1, Cents: 500, Cash: true}}}
		trip.Day++
		all, truly := move(t, z, till, trip, most), move(t, z, till, trip, f.kilos)
		if all.e == api.OK && (truly.e != api.OK || len(truly.papers) > len(all.papers)) || truly.soonest > all.soonest {
			t.Fatalf("%v, %v, %v: %v for %d, but %v for %d", z, trip, till, all, most, truly, f.kilos)
		}
		if all.e != api.OK {
			continue
		}
		complete++
		if len(truly.papers) < len(all.papers) {
			fewer++
		}
		if truly.soonest < all.soonest {
			sooner++
		}
		if f.kilos < most {
			less++
		}
	}
	if complete < 500 || fewer < 50 || sooner < 50 || less < 200 {
		t.Error("too few fractions were looked at", complete, fewer, sooner, less)
	}
}
