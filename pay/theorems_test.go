package pay_test

import (
	"math/rand"
	"slices"
	"testing"

	"swarf/api"
	"swarf/bridge"
	"swarf/pay"
)

// sameOf returns whether two names are one person in all truths of a till.
func sameOf(x api.Till, a, b int) int {
	var is tally
	for g := range truths(x) {
		is.add(g[a] == g[b])
	}
	return is.verdict()
}

// TestP8_7Law: all truths of small tills are gone through: the law is kept, and broken, as Lawful and Breach say, and names are one person as Same says.
func TestP8_7Law(t *testing.T) {
	r := rand.New(rand.NewSource(7))
	laws, persons, later := make(map[int]int), make(map[int]int), 0
	for range 8000 {
		x := randomTill(r, 8, 6, 9)
		want := lawOf(x, x.Dues)
		if law, e := pay.Lawful(x); law != want || e != api.OK {
			t.Fatalf("%v: Lawful %d %d, not %d", x, law, e, want)
		}
		p, s := breachOf(x)
		if perhaps, surely, e := pay.Breach(x); perhaps != p || surely != s || e != api.OK {
			t.Fatalf("%v: Breach %d %d %d, not %d %d", x, perhaps, surely, e, p, s)
		}
		for a := range x.Names {
			for b := range x.Names {
				is := sameOf(x, a, b)
				if v, e := pay.Same(x, a, b); v != is || e != api.OK {
					t.Fatalf("%v: Same of %d and %d %d %d, not %d", x, a, b, v, e, is)
				}
				persons[is]++
			}
		}
		laws[want]++
		if s > p {
			later++
		}
	}
	if len(laws) != 3 || slices.Min([]int{laws[a], laws[n], laws[u], later}) < 150 || len(persons) != 3 || persons[u] < 1000 {
		t.Error("too few tills were looked at", laws, later, persons)
	}
}

// regrouped returns a till with what is paid in cash on one day to one person, whose names surely are one, split among these names in other parts.
func regrouped(r *rand.Rand, x api.Till, g groups, day, person int) api.Till {
	y, sum := x, 0
	y.Dues = nil
	var names []int
	for name := range x.Names {
		if g[name] == person {
			names = append(names, name)
		}
	}
	for _, due := range x.Dues {
		if due.Cash && due.Day == day && g[due.Name] == person {
			sum += due.Cents
		} else {
			y.Dues = append(y.Dues, due)
		}
	}
	for last := between(r, 0, 3); last >= 0; last-- {
		part := sum
		if last > 0 {
			part = r.Intn(sum + 1)
		}
		sum -= part
		// Each part comes anywhere among the dues of its day.
		first, _ := slices.BinarySearchFunc(y.Dues, day, func(d api.Due, day int) int { return d.Day - day })
		behind, _ := slices.BinarySearchFunc(y.Dues, day+1, func(d api.Due, day int) int { return d.Day - day })
		y.Dues = slices.Insert(y.Dues, between(r, first, behind), cash(day, names[r.Intn(len(names))], part))
	}
	return y
}

// dayOf returns the day of a due, -1 of none.
func dayOf(x api.Till, due int) int {
	if due < 0 {
		return -1
	}
	return x.Dues[due].Day
}

// TestP8_8Split: whatever is paid in cash on one day to names that surely are one person may be split among them, in whatever parts, and nothing changes.
func TestP8_8Split(t *testing.T) {
	r := rand.New(rand.NewSource(8))
	split, broken := 0, 0
	for range 6000 {
		x := randomTill(r, 5, 6, 9)
		var links []api.Link
		for _, link := range x.Links {
			if link.Sure {
				links = append(links, link)
			}
		}
		if len(x.Dues) == 0 {
			continue
		}
		g := groupsOf(x.Names, links)
		due := x.Dues[r.Intn(len(x.Dues))]
		y := regrouped(r, x, g, due.Day, g[due.Name])
		p1, s1, _ := pay.Breach(x)
		p2, s2, e := pay.Breach(y)
		if dayOf(x, p1) != dayOf(y, p2) || dayOf(x, s1) != dayOf(y, s2) || e != api.OK {
			t.Fatalf("%v: Breach %d %d, but %d %d %d of %v", x, p1, s1, p2, s2, e, y)
		}
		law1, _ := pay.Lawful(x)
		if law2, e := pay.Lawful(y); law1 != law2 || e != api.OK {
			t.Fatalf("%v: Lawful %d, but %d %d of %v", x, law1, law2, e, y)
		}
		day := lastDay(x) + r.Intn(x.Window+1)
		for name := range x.Names {
			room1, e1 := pay.Room(x, name, day)
			room2, e2 := pay.Room(y, name, day)
			soonest1, e3 := pay.Soonest(x, name, day, 100)
			soonest2, e4 := pay.Soonest(y, name, day, 100)
			if room1 != room2 || e1 != e2 || soonest1 != soonest2 || e3 != e4 {
				t.Fatalf("%v: %d %d, %d %d to %d on %d, but %d %d, %d %d of %v", x, room1, e1, soonest1, e3, name, day, room2, e2, soonest2, e4, y)
			}
		}
		if p1 >= 0 {
			broken++
		} else if len(links) > 0 {
			split++
		}
	}
	if split < 500 || broken < 500 {
		t.Error("too few tills were looked at", split, broken)
	}
}

// TestP8_9Room: with what Room allows the law is kept in every truth, and with one cent more it is not.
func TestP8_9Room(t *testing.T) {
	r := rand.New(rand.NewSource(9))
	full, some := 0, 0
	for range 2500 {
		x := lawfulTill(r, 5, 5, 8)
		name, day := r.Intn(x.Names), lastDay(x)+r.Intn(x.Window+1)
		cents := mustRoom(t, x, name, day)
		if want := roomOf(x, name, day); cents != want {
			t.Fatalf("%v: Room of %d on %d is %d, not %d", x, name, day, cents, want)
		}
		if v, e := pay.Lawful(with(x, cash(day, name, cents))); v != api.Always || e != api.OK {
			t.Fatalf("%v: with %d to %d on %d Lawful is %d %d", x, cents, name, day, v, e)
		}
		if v, e := pay.Lawful(with(x, cash(day, name, cents+1))); v == api.Always || e != api.OK {
			t.Fatalf("%v: with a cent more than %d to %d on %d Lawful is %d %d", x, cents, name, day, v, e)
		}
		if cents == 0 {
			full++
		} else if cents < x.Limit {
			some++
		}
	}
	if full < 20 || some < 500 {
		t.Error("too few tills were looked at", full, some)
	}
}

// payDaily returns what has been paid to a name by each day from a day on, if each day as much of what there is room for is paid as share says.
func payDaily(t *testing.T, x api.Till, name, day, days int, share func(room int) int) []int {
	t.Helper()
	var paid []int
	sum := 0
	for range days {
		if part := share(mustRoom(t, x, name, day)); part > 0 {
			// Older dues are counted together with none of these days.
			x.Dues = slices.DeleteFunc(slices.Clone(x.Dues), func(d api.Due) bool { return d.Day <= day-x.Window })
			x = with(x, cash(day, name, part))
			sum += part
		}
		paid = append(paid, sum)
		day++
	}
	return paid
}

// TestP8_10Soonest: who pays what Room allows, day by day, has paid by Soonest, and not before; whatever else is paid day by day, no more is paid by any day.
func TestP8_10Soonest(t *testing.T) {
	r := rand.New(rand.NewSource(10))
	const days = 15
	waits, less := 0, 0
	for i := range 1500 {
		x := lawfulTill(r, 4, 4, 8)
		name, day := r.Intn(x.Names), lastDay(x)+r.Intn(x.Window+1)
		if i%5 == 0 {
			day = api.MaxDay + 1 - days
		}
		all := payDaily(t, x, name, day, days, func(room int) int { return room })
		for range 5 {
			cents := between(r, 1, all[days-1]+3)
			want := slices.IndexFunc(all, func(sum int) bool { return sum >= cents })
			if want > 0 {
				waits++
			}
			first := mustSoonest(t, x, name, day, cents)
			if want >= 0 && first != day+want || want < 0 && first >= 0 && first < day+days || want < 0 && i%5 == 0 && first >= 0 {
				t.Fatalf("%v: %d to %d from %d on by %d, but %v", x, cents, name, day, first, all)
			}
		}
		other := payDaily(t, x, name, day, days, func(room int) int { return min(room, r.Intn(room+2)) })
		for at, sum := range other {
			if sum > all[at] {
				t.Fatalf("%v: %v to %d from %d on, but %v", x, all, name, day, other)
			}
			if sum < all[at] {
				less++
			}
		}
	}
	if waits < 1000 || less < 1000 {
		t.Error("too few tills were looked at", waits, less)
	}
}

// signs are all letters and digits of codes.
const signs = "ABCDEFGHIJKLMNOPQRSTUVWXYZ0123456789"

// anyCode returns a random code of so many of the first signs.
func anyCode(r *rand.Rand, length, of int) string {
	code := make([]byte, length)
	for i := range code {
		code[i] = signs[r.Intn(of)]
	}
	return string(code)
}

// anyList returns a random valid list of tags, many of which have the same letters.
func anyList(r *rand.Rand, length int) []api.Tag {
	var list []api.Tag
	for range r.Intn(13) {
		tag := api.Tag{Code: anyCode(r, between(r, 1, length), []int{2, 36}[r.Intn(2)]), Hold: r.Intn(61)}
		if !slices.ContainsFunc(list, func(x api.Tag) bool { return x.Code == tag.Code }) {
			list = append(list, tag)
		}
	}
	return list
}

// anyReads returns random reads of a code.
func anyReads(r *rand.Rand, code string) []string {
	var reads []string
	known := r.Intn(5)
	for range between(r, 1, 4) {
		read := []byte(code)
		for i := range read {
			if r.Intn(5) > known {
				read[i] = '?'
			}
		}
		reads = append(reads, string(read))
	}
	return reads
}

// unread returns reads of which one place cannot be read.
func unread(reads []string, place int) []string {
	var less []string
	for _, read := range reads {
		less = append(less, read[:place]+"?"+read[place+1:])
	}
	return less
}

// mustMatch returns what Match and Held do, which must be without an error; held is how many days a thing is held.
func mustMatch(t *testing.T, list []api.Tag, reads []string) (verdict int, tags []int, held int) {
	t.Helper()
	verdict, tags, e := pay.Match(list, reads)
	until, f := pay.Held(list, reads, 1000)
	if e != api.OK || f != api.OK || (until < 0) != (len(tags) == 0) {
		t.Fatalf("%v, %q: %d %v %d, %d %d", list, reads, verdict, tags, e, until, f)
	}
	return verdict, tags, until - 1000
}

// TestP8_11Found: a thing that is listed is found, whatever of its code can be read, and held as long as its tag says at least; with a place less that can be read no tag is lost.
func TestP8_11Found(t *testing.T) {
	r := rand.New(rand.NewSource(11))
	alone, several := 0, 0
	for range 5000 {
		list := anyList(r, between(r, 1, 8))
		if len(list) == 0 {
			continue
		}
		at := r.Intn(len(list))
		reads := anyReads(r, list[at].Code)
		verdict, tags, held := mustMatch(t, list, reads)
		if verdict == api.Nowhere || !slices.Contains(tags, at) || held < list[at].Hold {
			t.Fatalf("%v, %q: %d is not found: %d %v, held for %d days", list, reads, at, verdict, tags, held)
		}
		_, more, longer := mustMatch(t, list, unread(reads, r.Intn(len(reads[0]))))
		if slices.ContainsFunc(tags, func(tag int) bool { return !slices.Contains(more, tag) }) || longer < held {
			t.Fatalf("%v, %q: %v for %d days, but with a place less %v for %d", list, reads, tags, held, more, longer)
		}
		if verdict == api.Always {
			alone++
		}
		if len(tags) > 1 {
			several++
		}
	}
	if alone < 500 || several < 300 {
		t.Error("too few things were looked at", alone, several)
	}
}

// fits tells whether a code may be what was read.
func fits(code string, reads []string) bool {
	for _, read := range reads {
		for i := range code {
			if read[i] != '?' && read[i] != code[i] {
				return false
			}
		}
	}
	return true
}

// TestP8_11All: all codes that a thing may have are gone through: the tags that fit and the verdict are just what they say.
func TestP8_11All(t *testing.T) {
	r := rand.New(rand.NewSource(111))
	counts := make(map[int]int)
	for range 500 {
		list := anyList(r, 2)
		code := anyCode(r, between(r, 1, 2), []int{2, 36}[r.Intn(2)])
		reads := anyReads(r, code)
		var listed tally
		var want []int
		for at := range 36 * 36 {
			other := string([]byte{signs[at%36], signs[at/36]})[:len(code)]
			if !fits(other, reads) {
				continue
			}
			tag := slices.IndexFunc(list, func(x api.Tag) bool { return x.Code == other })
			listed.add(tag >= 0)
			if tag >= 0 && !slices.Contains(want, tag) {
				want = append(want, tag)
			}
		}
		slices.Sort(want)
		longest := -1001
		for _, tag := range want {
			longest = max(longest, list[tag].Hold)
		}
		verdict, tags, held := mustMatch(t, list, reads)
		if verdict != listed.verdict() || !slices.Equal(tags, want) || held != longest {
			t.Fatalf("%v, %q: %d %v %d, not %d %v %d", list, reads, verdict, tags, held, listed.verdict(), want, longest)
		}
		counts[verdict]++
	}
	if counts[a] < 50 || counts[n] < 50 || counts[u] < 50 {
		t.Error("too few things were looked at", counts)
	}
}

// anyFixes returns random fixes, of which the first one is of the day 0.
func anyFixes(r *rand.Rand, dear int) []api.Fix {
	list := []api.Fix{{Cents: r.Intn(dear + 1)}}
	for range r.Intn(20) {
		list = append(list, api.Fix{Day: list[len(list)-1].Day + between(r, 1, 5), Cents: r.Intn(dear + 1)})
	}
	return list
}

// priceOf returns the price of a day, going back day by day.
func priceOf(fixes []api.Fix, day int) int {
	for {
		for _, fix := range fixes {
			if fix.Day == day {
				return fix.Cents
			}
		}
		day--
	}
}

// mustValue returns what Value does, which must be without an error.
func mustValue(t *testing.T, fixes []api.Fix, day int, kilos api.Range, share int) api.Range {
	t.Helper()
	value, e := pay.Value(fixes, day, kilos, share)
	if e != api.OK {
		t.Fatalf("%v: Value of %v on %d, %d: %d", fixes, kilos, day, share, e)
	}
	return value
}

// TestP8_12Valued: whatever the kilograms truly are, they are worth what Value says, and both ends are reached; parts are worth together what the whole is worth, or one cent less.
func TestP8_12Valued(t *testing.T) {
	r := rand.New(rand.NewSource(12))
	wide, less, same := 0, 0, 0
	for range 3000 {
		fixes := anyFixes(r, []int{9000, 500000, api.MaxCents}[r.Intn(3)])
		day, share := r.Intn(100), r.Intn(1001)
		from := r.Intn(api.MaxStock - 20)
		kilos := rng(from, from+r.Intn(20))
		value := mustValue(t, fixes, day, kilos, share)
		reached := rng(1<<62, -1)
		for n := kilos.Min; n <= kilos.Max; n++ {
			// A million times the cents, of which less than a million may be lost.
			exact := n * priceOf(fixes, day) * share
			worth := mustValue(t, fixes, day, rng(n, n), share)
			if worth.Min != worth.Max || exact-1000000*worth.Min < 0 || exact-1000000*worth.Min >= 1000000 {
				t.Fatalf("%v: %d on %d, %d: %v, not %d", fixes, n, day, share, worth, exact)
			}
			reached = rng(min(reached.Min, worth.Min), max(reached.Max, worth.Max))
		}
		if value != reached {
			t.Fatalf("%v: %v on %d, %d: %v, not %v", fixes, kilos, day, share, value, reached)
		}
		part := r.Intn(kilos.Max + 1)
		whole := mustValue(t, fixes, day, rng(kilos.Max, kilos.Max), share).Min
		parts := mustValue(t, fixes, day, rng(part, part), share).Min + mustValue(t, fixes, day, rng(kilos.Max-part, kilos.Max-part), share).Min
		switch {
		case parts == whole:
			same++
		case parts == whole-1:
			less++
		default:
			t.Fatalf("%v: %d of %d on %d, %d: %d, not %d", fixes, part, kilos.Max, day, share, parts, whole)
		}
		if value.Max > value.Min {
			wide++
		}
	}
	if wide < 1000 || less < 500 || same < 500 {
		t.Error("too few values were looked at", wide, less, same)
	}
}

// anyHedge returns a random valid hedge of so many days at most, for which there often is a plan.
func anyHedge(r *rand.Rand, days int) api.Hedge {
	h := api.Hedge{Lot: between(r, 1, 20), Held: r.Intn(51)}
	h.Bound = h.Lot * between(r, 1, 6) / 2
	near := r.Intn(51)
	for range between(r, 1, days) {
		near = max(0, min(50, near+between(r, -6, 6)))
		low := max(0, h.Lot*near+between(r, -h.Lot, h.Lot))
		h.Stock = append(h.Stock, rng(low, low+r.Intn(h.Bound+2)))
	}
	return h
}

// tradesOf returns the trades of a plan.
func tradesOf(h api.Hedge, plan []int) int {
	sum, before := 0, h.Held
	for _, lots := range plan {
		sum += max(lots-before, before-lots)
		before = lots
	}
	return sum
}

// isBounded tells whether the yard is exposed within the bound of a hedge on a day, whatever its stock truly is.
func isBounded(h api.Hedge, day, lots int) bool {
	for kilos := h.Stock[day].Min; kilos <= h.Stock[day].Max; kilos++ {
		if exposed := kilos - h.Lot*lots; exposed < -h.Bound || exposed > h.Bound {
			return false
		}
	}
	return true
}

// plansOf returns all plans by which the yard is exposed within the bound, in lexicographic order.
func plansOf(h api.Hedge) [][]int {
	plans := [][]int{nil}
	for day := range h.Stock {
		var longer [][]int
		for _, plan := range plans {
			for lots := range 51 {
				if isBounded(h, day, lots) {
					longer = append(longer, append(slices.Clone(plan), lots))
				}
			}
		}
		plans = longer
	}
	return plans
}

// TestP8_13Hedged: all plans of small hedges are looked at: by the plan of Hedged the yard is never exposed beyond its bound, and no plan that does it has fewer trades, nor as many and comes before.
func TestP8_13Hedged(t *testing.T) {
	r := rand.New(rand.NewSource(13))
	none, ties := 0, 0
	for range 2500 {
		h := anyHedge(r, 5)
		var want []int
		fewest, count := -1, 0
		for _, plan := range plansOf(h) {
			trades := tradesOf(h, plan)
			if fewest < 0 || trades < fewest {
				want, fewest, count = plan, trades, 0
			}
			if trades == fewest {
				count++
			}
		}
		plan, trades, e := pay.Hedged(h)
		if fewest < 0 {
			none++
			if plan != nil || trades != 0 || e != api.ErrLimit {
				t.Fatalf("%v: %v %d %d, but there is no plan", h, plan, trades, e)
			}
			continue
		}
		if !slices.Equal(plan, want) || trades != fewest || e != api.OK {
			t.Fatalf("%v: %v %d %d, not %v %d", h, plan, trades, e, want, fewest)
		}
		if count > 1 {
			ties++
		}
	}
	if none < 200 || none > 2000 || ties < 200 {
		t.Error("too few hedges were looked at", none, ties)
	}
}

// TestP8_13Bounded: by the plan of Hedged the yard is never exposed beyond its bound, as Exposed tells, also on many days, and it has the trades that Hedged says; if one day's lots are others, it has no fewer.
func TestP8_13Bounded(t *testing.T) {
	r := rand.New(rand.NewSource(131))
	some := 0
	for range 3000 {
		h := anyHedge(r, api.MaxDays)
		h.Bound *= 3
		plan, trades, e := pay.Hedged(h)
		if e == api.ErrLimit {
			continue
		}
		some++
		list, f := pay.Exposed(h, plan)
		if e != api.OK || f != api.OK || len(list) != len(h.Stock) || tradesOf(h, plan) != trades {
			t.Fatalf("%v: %v %d %d, %v %d", h, plan, trades, e, list, f)
		}
		for day, exposed := range list {
			stock := h.Stock[day]
			if exposed.Min < -h.Bound || exposed.Max > h.Bound || exposed != rng(stock.Min-h.Lot*plan[day], stock.Max-h.Lot*plan[day]) {
				t.Fatalf("%v: by %v exposed by %v", h, plan, list)
			}
			for lots := range 51 {
				other := slices.Clone(plan)
				other[day] = lots
				isBetter := tradesOf(h, other) < trades || tradesOf(h, other) == trades && lots < plan[day]
				if isBetter && isBounded(h, day, lots) {
					t.Fatalf("%v: %v, but %v", h, plan, other)
				}
			}
		}
	}
	if some < 1000 {
		t.Error("too few hedges were looked at", some)
	}
}

// weighing is a log and a slip of a lorry, what is known of its dirt, and what has truly to be paid for.
type weighing struct {
	log   api.Log
	slip  api.Slip
	dirt  api.Range
	kilos int
}

// weighed returns a lorry that was weighed full and bare on a bridge whose zero wandered.
func weighed(r *rand.Rand) weighing {
	w := weighing{log: api.Log{Step: between(r, 1, 50), Zero: rng(-10, 10)}, slip: api.Slip{Full: []int{0}, Bare: []int{1}}}
	bare, zero := between(r, 3000, 9000), between(r, -10, 10)
	net := between(r, 0, 20000)
	for _, load := range []int{bare + net, bare} {
		zero += between(r, -5, 5)
		// What is shown is the multiple that is nearest, of two the greater one.
		shown := (load + zero + w.log.Step/2) / w.log.Step * w.log.Step
		w.log.Events = append(w.log.Events, api.Event{Kind: api.EventLoad, Shown: shown, Change: rng(-5, 5)})
	}
	dirt := r.Intn(101)
	w.dirt = rng(max(0, dirt-r.Intn(9)), dirt+r.Intn(9))
	w.kilos = net * (1000 - dirt) / 1000
	return w
}

// TestT3Paid: a load is paid by its net weight, after the dirt is deducted, at the price of the day: what it truly is worth is within what is told; paid in cash as far as there is room, and by account for the rest, it leaves the law kept.
func TestT3Paid(t *testing.T) {
	r := rand.New(rand.NewSource(3))
	both, wide := 0, 0
	for range 3000 {
		w := weighed(r)
		kilos, e := bridge.Paid(w.log, w.slip, w.dirt)
		if e != api.OK {
			t.Fatalf("%v may be: %d", w, e)
		}
		x := lawfulTill(r, 5, 5, 10)
		fixes, day := anyFixes(r, 2000), lastDay(x)+r.Intn(3)
		value := mustValue(t, fixes, day, kilos, 1000)
		worth := w.kilos * priceOf(fixes, day) / 1000
		if !has(value, worth) {
			t.Fatalf("%v: %d kilograms on %d are worth %d by %v, not %v", w, w.kilos, day, worth, fixes, value)
		}
		name := r.Intn(x.Names)
		for _, cents := range []int{value.Min, worth, value.Max} {
			part := min(cents, mustRoom(t, x, name, day))
			after := with(with(x, cash(day, name, part)), bank(day, name, cents-part))
			if v, e := pay.Lawful(after); v != api.Always || e != api.OK {
				t.Fatalf("%v: the law is not kept: %d %d", after, v, e)
			}
			if part > 0 && part < cents {
				both++
			}
		}
		if value.Max > value.Min {
			wide++
		}
	}
	if both < 1000 || wide < 1000 {
		t.Error("too few loads were looked at", both, wide)
	}
}
