package strip_test

import (
	"math/rand"
	"slices"
	"testing"

	"swarf/api"
	"swarf/mix"
	"swarf/strip"
)

// isTold tells whether a verdict is right of something that is so, or is not.
func isTold(verdict int, isSo bool) bool {
	return verdict == api.Unsure || verdict == api.Always && isSo || verdict == api.Nowhere && !isSo
}

// TestP4_6True: cars are made of a truth, of up to 9 parts and 12 looks, and what is told is so in this truth.
func TestP4_6True(t *testing.T) {
	r := rand.New(rand.NewSource(6))
	for range 2000 {
		c, isOut := live(r, api.MaxParts)
		all, e := tell(c)
		if e != api.OK || all.least > wrongs(c, isOut) || all.least > c.Wrong || len(all.out) != len(isOut) {
			t.Fatalf("%v is possible, %v: %v %d", c, isOut, all, e)
		}
		for i, is := range all.out {
			if !isTold(is, isOut[i]) {
				t.Fatalf("%v: out are %v, but %v", c, isOut, all.out)
			}
		}
		if !isTold(all.clean, isClean(c, isOut)) {
			t.Fatalf("%v: out are %v, but clean: %d", c, isOut, all.clean)
		}
	}
}

// TestP4_7All: all states of cars are gone through; there is a truth just if Least is at most Wrong, and verdicts are just what they say.
func TestP4_7All(t *testing.T) {
	r := rand.New(rand.NewSource(7))
	conflicts, unsure := 0, 0
	for range 3000 {
		c := randomCar(r, api.MaxParts)
		want := tryAll(c)
		least, e := strip.Least(c)
		if e != api.OK || least != want.least {
			t.Fatalf("%v: Least %d %d, not %d", c, least, e, want.least)
		}
		all, e := tell(c)
		if (e == api.OK) != (least <= c.Wrong) || (e == api.OK) != (want.truths != nil) || e != api.OK && e != api.ErrConflict {
			t.Fatalf("%v: Least %d, Out %d", c, least, e)
		}
		if e != api.OK {
			conflicts++
			continue
		}
		if want.clean == api.Unsure {
			unsure++
		}
		if !slices.Equal(all.out, want.out) || all.clean != want.clean {
			t.Fatalf("%v: %v, not %v", c, all, want)
		}
	}
	if conflicts < 300 || unsure < 300 {
		t.Error("too few cars were looked at", conflicts, unsure)
	}
}

// TestP4_8Closed: what has to be out before a part that surely is out surely is, too; what comes after one that surely is not surely is not.
func TestP4_8Closed(t *testing.T) {
	r := rand.New(rand.NewSource(8))
	pairs := 0
	for range 2000 {
		c := randomCar(r, api.MaxParts)
		list, e := strip.Out(c)
		if e != api.OK {
			continue
		}
		for i, part := range c.Parts {
			for _, before := range part.Before {
				if list[i] == api.Always || list[before] == api.Nowhere {
					pairs++
				}
				if list[i] == api.Always && list[before] != api.Always || list[before] == api.Nowhere && list[i] != api.Nowhere {
					t.Fatalf("%v: %v", c, list)
				}
			}
		}
	}
	if pairs < 1000 {
		t.Error("too few parts were looked at", pairs)
	}
}

// TestP4_9Looked: of all lists of parts, that of Again is the first one that tells whether the car is clean.
func TestP4_9Looked(t *testing.T) {
	r := rand.New(rand.NewSource(9))
	counts := make([]int, api.MaxParts+1)
	for range 1500 {
		c := randomCar(r, 7)
		again, e := strip.Again(c)
		all := tryAll(c)
		if all.truths == nil {
			if e != api.ErrConflict || again != nil {
				t.Fatalf("%v: Again %v %d", c, again, e)
			}
			continue
		}
		counts[len(again)]++
		for _, list := range lists(len(c.Parts)) {
			if all.tells(c, list) {
				if e != api.OK || !slices.Equal(again, list) {
					t.Fatalf("%v: Again %v %d, not %v", c, again, e, list)
				}
				break
			}
		}
	}
	if counts[0] < 200 || counts[1] < 200 || counts[2] < 50 || counts[3] < 10 {
		t.Error("too few cars were looked at", counts)
	}
}

// TestP4_9Known: if it is known of the parts of Again whether they are out, as more looks say than may be wrong, the car is surely clean, or surely not.
func TestP4_9Known(t *testing.T) {
	r := rand.New(rand.NewSource(99))
	known := 0
	for range 3000 {
		c, isOut := live(r, api.MaxParts)
		var looks []api.Look
		for _, part := range first(strip.Again(c)) {
			look := api.Look{Part: part, Out: isOut[part]}
			looks = append(looks, slices.Repeat([]api.Look{look}, c.Wrong+1)...)
		}
		sure := plus(c, looks...)
		if len(looks) == 0 || len(sure.Looks) > api.MaxLooks {
			continue
		}
		known++
		clean, e := strip.Clean(sure)
		if e != api.OK || clean == api.Unsure || !isTold(clean, isClean(c, isOut)) {
			t.Fatalf("%v: %d %d", sure, clean, e)
		}
	}
	if known < 300 {
		t.Error("too few cars were known", known)
	}
}

// TestP4_10Worked: of all orders of what is left to do, that of Work is the first one of the quickest ones.
func TestP4_10Worked(t *testing.T) {
	r := rand.New(rand.NewSource(10))
	counts := make([]int, api.MaxParts+1)
	for range 1500 {
		c := randomCar(r, 7)
		order, minutes, e := strip.Work(c)
		all := tryAll(c)
		if all.truths == nil {
			if e != api.ErrConflict || order != nil || minutes != 0 {
				t.Fatalf("%v: Work %v %d %d", c, order, minutes, e)
			}
			continue
		}
		todo := all.leftToDo(c)
		counts[len(todo)]++
		var best []int
		least := -1
		allOrders(c, todo, func(order []int, minutes int) {
			if least < 0 || minutes < least {
				best, least = slices.Clone(order), minutes
			}
		})
		if e != api.OK || !slices.Equal(order, best) || minutes != least {
			t.Fatalf("%v: Work %v %d %d, not %v %d", c, order, minutes, e, best, least)
		}
	}
	if counts[0] < 100 || counts[3] < 100 || counts[5] < 50 || counts[6] < 20 {
		t.Error("too few cars were looked at", counts)
	}
}

// TestP4_11Safe: a car that may be crushed is clean in all truths; one that is held is not in some.
func TestP4_11Safe(t *testing.T) {
	r := rand.New(rand.NewSource(11))
	counts := make(map[api.Errno]int)
	for range 3000 {
		c := randomCar(r, api.MaxParts)
		papers := someOf(r, api.MaxNeeds+1, 1)
		if r.Intn(8) == 0 {
			papers = someOf(r, api.MaxNeeds+1, 2)
		}
		hasPapers := !slices.ContainsFunc(c.Needs, func(need int) bool { return !slices.Contains(papers, need) })
		all := tryAll(c)
		want := api.OK
		switch {
		case !hasPapers:
			want = api.ErrPaper
		case all.truths == nil:
			want = api.ErrConflict
		case slices.ContainsFunc(all.truths, func(isOut []bool) bool { return !isClean(c, isOut) }):
			want = api.ErrHeld
		}
		if e := strip.Crush(c, papers); e != want {
			t.Fatalf("%v with %v: %d, not %d", c, papers, e, want)
		}
		counts[want]++
	}
	if len(counts) != 4 || counts[api.OK] < 200 || counts[api.ErrConflict] < 100 || counts[api.ErrPaper] < 100 {
		t.Error("too few cars were looked at", counts)
	}
}

// TestP4_12MoreLooks: a look that is right in a truth does not make it false; with one more look, and one more that may be wrong, nothing becomes sure.
func TestP4_12MoreLooks(t *testing.T) {
	r := rand.New(rand.NewSource(12))
	for range 2000 {
		c, isOut := live(r, api.MaxParts)
		if len(c.Looks) == api.MaxLooks || c.Wrong == api.MaxLooks {
			continue
		}
		before, _ := tell(c)
		part := r.Intn(len(c.Parts))
		right := plus(c, api.Look{Part: part, Out: isOut[part]})
		after, e := tell(right)
		if e != api.OK || after.least < before.least {
			t.Fatalf("%v is possible: %d", right, e)
		}
		for i, is := range after.out {
			if !isTold(is, isOut[i]) || before.out[i] != api.Unsure && is != before.out[i] {
				t.Fatalf("%v: out are %v, but %v, before %v", right, isOut, after.out, before.out)
			}
		}
		more := mayWrong(c.Wrong+1, plus(c, api.Look{Part: part, Out: r.Intn(2) == 0}))
		after, e = tell(more)
		if e != api.OK || before.clean == api.Unsure && after.clean != api.Unsure {
			t.Fatalf("%v: clean %d %d, before %d", more, after.clean, e, before.clean)
		}
		for i, is := range after.out {
			if before.out[i] == api.Unsure && is != api.Unsure {
				t.Fatalf("%v: %v, before %v", more, after.out, before.out)
			}
		}
	}
}

// kilosLeft returns how many kilograms of the bad parts, and of the other ones, may be left in a car, if each part weighs 10.
func kilosLeft(c api.Car) []api.Range {
	left := make([]api.Range, 2)
	for i, is := range first(strip.Out(c)) {
		stuff := &left[0]
		if !c.Parts[i].Bad {
			stuff = &left[1]
		}
		if is != api.Always {
			stuff.Max += 10
		}
		if is == api.Nowhere {
			stuff.Min += 10
		}
	}
	return left
}

// TestT5Crushed: cars that may be crushed have nothing of a bad part in them, nor has any fraction into which they are sorted.
func TestT5Crushed(t *testing.T) {
	r := rand.New(rand.NewSource(5))
	crushed, held := 0, 0
	for range 2000 {
		c := randomCar(r, api.MaxParts)
		e := strip.Crush(c, c.Needs)
		if e == api.ErrConflict {
			continue
		}
		load := api.Load{Stuffs: kilosLeft(c)}
		for i := range r.Intn(api.MaxSplits + 1) {
			sorting := api.Split{Of: 2 * i, Pulls: []bool{r.Intn(2) == 0, r.Intn(2) == 0}, Wrong: []int{r.Intn(20), r.Intn(20)}}
			load.Splits = append(load.Splits, sorting)
		}
		holds, f := mix.Holds(load)
		if f != api.OK {
			t.Fatalf("%v: %d", load, f)
		}
		isLeft := slices.ContainsFunc(holds, func(stuffs []api.Range) bool { return stuffs[0] != api.Range{} })
		if isLeft != (e == api.ErrHeld) {
			t.Fatalf("%v: Crush %d, but its fractions hold %v", c, e, holds)
		}
		if isLeft {
			held++
		} else {
			crushed++
		}
	}
	if crushed < 200 || held < 200 {
		t.Error("too few cars were looked at", crushed, held)
	}
}
