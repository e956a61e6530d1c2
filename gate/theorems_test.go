package gate_test

import (
	"math/rand"
	"slices"
	"testing"

	"swarf/api"
	"swarf/gate"
)

// TestP3_5True: sites are made of a truth, of up to 14 doings, and what is told is so in this truth.
func TestP3_5True(t *testing.T) {
	r := rand.New(rand.NewSource(5))
	for range 2000 {
		v := live(r, size{lorries: between(r, 1, 6), piles: between(r, 1, 5), gates: between(r, 1, 3), doings: between(r, 1, 14), source: 300, wide: 100})
		all, e := tell(v.site)
		if e != api.OK {
			t.Fatalf("%v may be, but: %d", v.site, e)
		}
		for lorry, where := range v.at {
			if all.lorries[lorry] == api.Nowhere && where != never || all.lorries[lorry] == api.Always && where == never {
				t.Fatalf("%v: sources at %v, but lorries are %v", v.site, v.at, all.lorries)
			}
			if where >= 0 && !slices.Contains(all.suspects[where], lorry) {
				t.Fatalf("%v: sources at %v, but suspects are %v", v.site, v.at, all.suspects)
			}
		}
		for pile, is := range all.piles {
			isHot := slices.Contains(v.at, pile)
			if is == api.Nowhere && isHot || is == api.Always && !isHot {
				t.Fatalf("%v: sources at %v, but piles are %v", v.site, v.at, all.piles)
			}
		}
		search := first(gate.Search(v.site))
		isHot := slices.ContainsFunc(v.at, func(where int) bool { return where >= 0 })
		isMet := slices.ContainsFunc(v.at, func(where int) bool { return slices.Contains(search, where) })
		if isHot != isMet {
			t.Fatalf("%v: sources at %v, but clean piles %v do", v.site, v.at, search)
		}
	}
}

// TestP3_6All: all truths of small sites are gone through; verdicts and suspects are just what they say.
func TestP3_6All(t *testing.T) {
	r := rand.New(rand.NewSource(6))
	conflicts, unsure := 0, 0
	for range 4000 {
		s := smallSite(r)
		want := tryAll(s)
		all, e := tell(s)
		if want.some != (e == api.OK) || !want.some && e != api.ErrConflict {
			t.Fatalf("%v: may be: %v, Lorries %d", s, want.some, e)
		}
		if e != api.OK {
			conflicts++
			continue
		}
		if slices.Contains(all.piles, api.Unsure) {
			unsure++
		}
		if !all.isSame(want) {
			t.Fatalf("%v: %v, not %v", s, all, want)
		}
	}
	if conflicts < 400 || unsure < 400 {
		t.Error("too few sites were looked at", conflicts, unsure)
	}
}

// narrower returns a range that lies in another one.
func narrower(r *rand.Rand, wide api.Range) api.Range {
	low := between(r, wide.Min, wide.Max)
	return rng(low, between(r, low, wide.Max))
}

// knownBetter returns a site of which more is known.
func knownBetter(r *rand.Rand, s api.Site) api.Site {
	s = copySite(s)
	switch r.Intn(4) {
	case 0:
		s.Source = narrower(r, s.Source)
	case 1:
		s.Most = r.Intn(s.Most + 1)
	case 2:
		g := &s.Gates[r.Intn(len(s.Gates))]
		g.Back = narrower(r, g.Back)
	case 3:
		g := &s.Gates[r.Intn(len(s.Gates))]
		g.Wander = r.Intn(g.Wander + 1)
	}
	return s
}

// TestP3_7KnownBetter: with narrower ranges, less wandering and fewer sources verdicts stay, and there are no more suspects.
func TestP3_7KnownBetter(t *testing.T) {
	r := rand.New(rand.NewSource(7))
	better := 0
	for range 3000 {
		s := smallSite(r)
		less, e := tell(s)
		other := knownBetter(r, s)
		more, f := tell(other)
		if e != api.OK && f == api.OK {
			t.Fatalf("%v may not be, but %v", s, other)
		}
		if f != api.OK {
			continue
		}
		if !less.isSame(more) {
			better++
		}
		before, after := append(less.lorries, less.piles...), append(more.lorries, more.piles...)
		for i, is := range before {
			if is != api.Unsure && after[i] != is {
				t.Fatalf("%v: %v, but %v: %v", s, less, other, more)
			}
		}
		for pile, suspects := range more.suspects {
			for _, lorry := range suspects {
				if !slices.Contains(less.suspects[pile], lorry) {
					t.Fatalf("%v: suspects %v, but %v: %v", s, less.suspects, other, more.suspects)
				}
			}
		}
	}
	if better < 100 {
		t.Error("too few sites were known better", better)
	}
}

// renamed returns a site in which each lorry and each pile has the number of its place in a list.
func renamed(s api.Site, lorries, piles []int) api.Site {
	s = copySite(s)
	for i := range s.Doings {
		doing := &s.Doings[i]
		switch doing.Kind {
		case api.DoPass:
			doing.B = lorries[doing.B]
		case api.DoTip:
			doing.A, doing.B = lorries[doing.A], piles[doing.B]
		case api.DoMove:
			doing.A, doing.B = piles[doing.A], piles[doing.B]
		default:
			doing.A = piles[doing.A]
		}
	}
	return s
}

// TestP3_8OtherNames: if lorries and piles are numbered otherwise, so are all verdicts and suspects.
func TestP3_8OtherNames(t *testing.T) {
	r := rand.New(rand.NewSource(8))
	for range 2000 {
		s := smallSite(r)
		lorries, piles := r.Perm(s.Lorries), r.Perm(s.Piles)
		other := renamed(s, lorries, piles)
		all, e := tell(s)
		otherAll, f := tell(other)
		alarm, g := gate.Alarm(s)
		otherAlarm, h := gate.Alarm(other)
		if e != f || alarm != otherAlarm || g != h || len(first(gate.Search(s))) != len(first(gate.Search(other))) {
			t.Fatalf("%v: %d, %d %d, but %v: %d, %d %d", s, e, alarm, g, other, f, otherAlarm, h)
		}
		if e != api.OK {
			continue
		}
		want := told{some: true, lorries: make([]int, s.Lorries), piles: make([]int, s.Piles), suspects: make([][]int, s.Piles)}
		for lorry, name := range lorries {
			want.lorries[name] = all.lorries[lorry]
		}
		for pile, name := range piles {
			want.piles[name] = all.piles[pile]
			for _, lorry := range all.suspects[pile] {
				want.suspects[name] = append(want.suspects[name], lorries[lorry])
			}
			slices.Sort(want.suspects[name])
		}
		if !otherAll.isSame(want) {
			t.Fatalf("%v: %v, but %v: %v", s, all, other, otherAll)
		}
	}
}

// TestP3_9Measured: a measurement of what is sure changes nothing.
func TestP3_9Measured(t *testing.T) {
	r := rand.New(rand.NewSource(9))
	cleans, finds := 0, 0
	for range 2000 {
		s := smallSite(r)
		all, e := tell(s)
		if e != api.OK {
			continue
		}
		for pile, is := range all.piles {
			var measured api.Site
			switch is {
			case api.Nowhere:
				cleans++
				measured = plus(s, clean(pile))
			case api.Always:
				finds++
				measured = plus(s, find(pile))
			default:
				continue
			}
			again, f := tell(measured)
			alarm, g := gate.Alarm(s)
			otherAlarm, h := gate.Alarm(measured)
			if f != api.OK || !again.isSame(all) || alarm != otherAlarm || g != h || !slices.Equal(first(gate.Search(s)), first(gate.Search(measured))) {
				t.Fatalf("%v: %v, but measured: %v", s, all, again)
			}
		}
	}
	if cleans < 300 || finds < 100 {
		t.Error("too few piles were measured", cleans, finds)
	}
}

// isEnough tells whether no source can be left in any pile if those of a list were found to be clean.
func isEnough(s api.Site, list []int) bool {
	for _, pile := range list {
		s = plus(s, clean(pile))
	}
	piles, e := gate.Piles(s)
	return e == api.ErrConflict || !slices.ContainsFunc(piles, func(is int) bool { return is != api.Nowhere })
}

// meetsAll tells whether a list has one of the piles of each of several others.
func meetsAll(list []int, others [][]int) bool {
	return !slices.ContainsFunc(others, func(hot []int) bool {
		return !slices.ContainsFunc(hot, func(pile int) bool { return slices.Contains(list, pile) })
	})
}

// TestP3_10Fewest: of all lists of piles, those of Search are the first ones that do.
func TestP3_10Fewest(t *testing.T) {
	r := rand.New(rand.NewSource(10))
	counts := make([]int, 4)
	for range 6000 {
		s := smallSite(r)
		search, e := gate.Search(s)
		if e != api.OK {
			continue
		}
		all := tryAll(s)
		counts[len(search)]++
		for _, list := range lists(s.Piles) {
			if does := meetsAll(list, all.hot); does != isEnough(s, list) {
				t.Fatalf("%v: clean piles %v do: %v", s, list, does)
			} else if does {
				if !slices.Equal(list, search) {
					t.Fatalf("%v: Search %v, not %v", s, search, list)
				}
				break
			}
		}
	}
	if counts[1] < 500 || counts[2] < 200 || counts[3] < 20 {
		t.Error("too few sites were looked at", counts)
	}
}

// TestP3_11First: Alarm names the first doing that cannot be without a source.
func TestP3_11First(t *testing.T) {
	r := rand.New(rand.NewSource(11))
	alarms, quiet := 0, 0
	for range 4000 {
		s := smallSite(r)
		alarm, e := gate.Alarm(s)
		s.Most = 0
		if e == api.ErrUnknown {
			quiet++
			if alarm != 0 || !mayBe(s) {
				t.Fatalf("%v may not be without a source", s)
			}
			continue
		}
		alarms++
		with, without := s, s
		with.Doings, without.Doings = s.Doings[:alarm+1], s.Doings[:alarm]
		if e != api.OK || mayBe(with) || !mayBe(without) {
			t.Fatalf("%v: Alarm %d %d", s, alarm, e)
		}
	}
	if alarms < 400 || quiet < 400 {
		t.Error("too few sites were looked at", alarms, quiet)
	}
}

// TestP3_12EitherWay: two passes at different gates, one after the other, may as well be the other way round.
func TestP3_12EitherWay(t *testing.T) {
	r := rand.New(rand.NewSource(12))
	swaps := 0
	for range 4000 {
		s := smallSite(r)
		for i := range len(s.Doings) - 1 {
			now, next := s.Doings[i], s.Doings[i+1]
			if now.Kind != api.DoPass || next.Kind != api.DoPass || now.A == next.A {
				continue
			}
			swaps++
			other := copySite(s)
			other.Doings[i], other.Doings[i+1] = next, now
			all, e := tell(s)
			otherAll, f := tell(other)
			_, g := gate.Alarm(s)
			_, h := gate.Alarm(other)
			if e != f || g != h || !all.isSame(otherAll) || !slices.Equal(first(gate.Search(s)), first(gate.Search(other))) {
				t.Fatalf("%v: %v %d, but %v: %v %d", s, all, e, other, otherAll, f)
			}
		}
	}
	if swaps < 300 {
		t.Error("too few passes were swapped", swaps)
	}
}
