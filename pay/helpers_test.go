package pay_test

import (
	"iter"
	"math/rand"
	"slices"
	"testing"

	"swarf/api"
	"swarf/pay"
)

// rng returns a range.
func rng(low, high int) api.Range { return api.Range{Min: low, Max: high} }

// sure and maybe return links, cash and bank dues.
func sure(a, b int) api.Link { return api.Link{A: a, B: b, Sure: true} }

func maybe(a, b int) api.Link { return api.Link{A: a, B: b} }

func cash(day, name, cents int) api.Due {
	return api.Due{Day: day, Name: name, Cents: cents, Cash: true}
}

func bank(day, name, cents int) api.Due { return api.Due{Day: day, Name: name, Cents: cents} }

// tillT is T of the chapter's examples, with so much as its Limit.
func tillT(limit int) api.Till {
	return api.Till{
		Names: 4, Limit: limit, Window: 3,
		Links: []api.Link{sure(0, 1), maybe(1, 2)},
		Dues:  []api.Due{cash(0, 0, 400), cash(1, 2, 500), bank(1, 3, 900), cash(2, 1, 300), cash(4, 0, 500)},
	}
}

// withT returns T with a change.
func withT(change func(t *api.Till)) api.Till {
	t := tillT(1000)
	change(&t)
	return t
}

// listL, fixesF and hedgeH are L, F and H of the chapter's examples.
func listL() []api.Tag {
	return []api.Tag{{Code: "AB12", Hold: 10}, {Code: "AB99", Hold: 3}, {Code: "ZZ", Hold: 5}}
}

func fixesF() []api.Fix { return []api.Fix{{Day: 10, Cents: 200000}, {Day: 12, Cents: 210000}} }

func hedgeH() api.Hedge {
	return api.Hedge{Stock: []api.Range{rng(90, 110), rng(140, 160), rng(100, 120)}, Lot: 25, Bound: 30, Held: 4}
}

// copyTill returns a copy that shares no memory.
func copyTill(t api.Till) api.Till {
	t.Links, t.Dues = slices.Clone(t.Links), slices.Clone(t.Dues)
	return t
}

// sameTill tells whether two tills are equal.
func sameTill(a, b api.Till) bool {
	isSame := a.Names == b.Names && a.Limit == b.Limit && a.Window == b.Window
	return isSame && slices.Equal(a.Links, b.Links) && slices.Equal(a.Dues, b.Dues)
}

// isEmpty tells whether nothing is said of a till.
func isEmpty(t api.Till) bool { return sameTill(t, api.Till{}) }

// between returns a random number from low to high.
func between(r *rand.Rand, low, high int) int { return low + r.Intn(high-low+1) }

// has tells whether n is in a range.
func has(r api.Range, n int) bool { return r.Min <= n && n <= r.Max }

// groups has for each name a number that is the same for all names of one person.
type groups []int

// groupsOf returns the groups of so many names if these links hold: whoever is linked gets the same number, link by link.
func groupsOf(names int, links []api.Link) groups {
	var g groups
	for name := range names {
		g = append(g, name)
	}
	for _, link := range links {
		from, to := g[link.A], g[link.B]
		for name := range g {
			if g[name] == from {
				g[name] = to
			}
		}
	}
	return g
}

// truths hands out the groups of all truths of a till.
func truths(t api.Till) iter.Seq[groups] {
	return func(yield func(groups) bool) {
		for which := range 1 << len(t.Links) {
			var links []api.Link
			isTruth := true
			for i, link := range t.Links {
				if which>>i&1 == 1 {
					links = append(links, link)
				} else if link.Sure {
					isTruth = false
				}
			}
			if isTruth && !yield(groupsOf(t.Names, links)) {
				return
			}
		}
	}
}

// isKept tells whether the law is kept by these dues of a till, day by day and person by person.
func isKept(t api.Till, dues []api.Due, g groups) bool {
	last := 0
	for _, due := range dues {
		last = max(last, due.Day)
	}
	for day := 0; day <= last+t.Window; day++ {
		sums := make(map[int]int)
		for _, due := range dues {
			if due.Cash && due.Day <= day && due.Day > day-t.Window {
				sums[g[due.Name]] += due.Cents
			}
		}
		for _, sum := range sums {
			if sum > t.Limit {
				return false
			}
		}
	}
	return true
}

// tally counts in how many truths something is so.
type tally struct{ all, so int }

func (x *tally) add(isSo bool) {
	x.all++
	if isSo {
		x.so++
	}
}

func (x tally) verdict() int {
	switch x.so {
	case x.all:
		return api.Always
	case 0:
		return api.Nowhere
	}
	return api.Unsure
}

// lawOf returns the verdict on the law with these dues of a till.
func lawOf(t api.Till, dues []api.Due) int {
	var x tally
	for g := range truths(t) {
		x.add(isKept(t, dues, g))
	}
	return x.verdict()
}

// breachOf returns what Breach has to, due by due.
func breachOf(t api.Till) (perhaps, surely int) {
	perhaps, surely = -1, -1
	for i := range t.Dues {
		law := lawOf(t, t.Dues[:i+1])
		if perhaps < 0 && law != api.Always {
			perhaps = i
		}
		if surely < 0 && law == api.Nowhere {
			surely = i
		}
	}
	return perhaps, surely
}

// roomOf returns what Room has to, by halving.
func roomOf(t api.Till, name, day int) int {
	low, high := 0, t.Limit+1
	for high-low > 1 {
		middle := (low + high) / 2
		if lawOf(t, append(slices.Clone(t.Dues), cash(day, name, middle))) == api.Always {
			low = middle
		} else {
			high = middle
		}
	}
	return low
}

// randomTill returns a random valid till of some names, links and dues, with dues on days that are near to each other.
func randomTill(r *rand.Rand, names, links, dues int) api.Till {
	t := api.Till{Names: between(r, 1, names), Limit: between(r, 5, 20), Window: between(r, 1, 6)}
	for range r.Intn(links + 1) {
		a, b := r.Intn(t.Names), r.Intn(t.Names)
		isThere := func(l api.Link) bool { return l.A == a && l.B == b || l.A == b && l.B == a }
		if a != b && !slices.ContainsFunc(t.Links, isThere) {
			t.Links = append(t.Links, api.Link{A: a, B: b, Sure: r.Intn(3) == 0})
		}
	}
	day := r.Intn(3)
	for range r.Intn(dues + 1) {
		day += r.Intn(3)
		t.Dues = append(t.Dues, api.Due{Day: day, Name: r.Intn(t.Names), Cents: r.Intn(10), Cash: r.Intn(4) > 0})
	}
	return t
}

// lastDay returns the day of the last due.
func lastDay(t api.Till) int {
	if len(t.Dues) == 0 {
		return 0
	}
	return t.Dues[len(t.Dues)-1].Day
}

// lawfulTill returns a random till whose law is kept in every truth.
func lawfulTill(r *rand.Rand, names, links, dues int) api.Till {
	for {
		t := randomTill(r, names, links, dues)
		if v, e := pay.Lawful(t); v == api.Always && e == api.OK {
			return t
		}
	}
}

// with returns a till with one due more.
func with(t api.Till, due api.Due) api.Till {
	t = copyTill(t)
	t.Dues = append(t.Dues, due)
	return t
}

// mustRoom returns what Room does, which must be without an error.
func mustRoom(t *testing.T, x api.Till, name, day int) int {
	t.Helper()
	cents, e := pay.Room(x, name, day)
	if e != api.OK {
		t.Fatalf("%v: Room of %d on %d: %d", x, name, day, e)
	}
	return cents
}

// mustSoonest returns what Soonest does, which must be without an error, or late; -1 if it is late.
func mustSoonest(t *testing.T, x api.Till, name, day, cents int) int {
	t.Helper()
	first, e := pay.Soonest(x, name, day, cents)
	if e == api.ErrLate && first == 0 {
		return -1
	}
	if e != api.OK {
		t.Fatalf("%v: Soonest of %d to %d on %d: %d %d", x, cents, name, day, first, e)
	}
	return first
}
