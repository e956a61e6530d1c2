package mix_test

import (
	"math/rand"
	"slices"
	"testing"

	"swarf/api"
	"swarf/mix"
)

// first returns the first one of two results.
func first[T any](value T, e api.Errno) T { return value }

// verdictOf returns what Pure has to say of a range.
func verdictOf(r api.Range, limit int) int {
	switch {
	case r.Max <= limit:
		return api.Always
	case r.Min > limit:
		return api.Nowhere
	}
	return api.Unsure
}

// TestP2_5True: loads are made of a truth, of up to four splits, and what is told has this truth in it.
func TestP2_5True(t *testing.T) {
	r := rand.New(rand.NewSource(5))
	for range 400 {
		v := live(r, between(r, 1, 4), between(r, 0, 4), 90000, []int{0, 3, 300, 30000}[r.Intn(4)])
		if !isTruth(v.load, v.kilos) {
			t.Fatalf("%v: %v is no truth", v.load, v.kilos)
		}
		holds, e := mix.Holds(v.load)
		weights, f := mix.Weights(v.load)
		if e != api.OK || f != api.OK || len(holds) != len(v.kilos) || len(weights) != len(v.kilos) {
			t.Fatalf("%v: %v %d, %v %d", v.load, holds, e, weights, f)
		}
		for fraction, list := range v.kilos {
			if !has(weights[fraction], sum(list)) || len(holds[fraction]) != len(list) {
				t.Fatalf("%v: the fraction %d weighs %d, not within %v", v.load, fraction, sum(list), weights[fraction])
			}
			for stuff, kilos := range list {
				if !has(holds[fraction][stuff], kilos) {
					t.Fatalf("%v: %d of %d in %d, not within %v", v.load, kilos, stuff, fraction, holds[fraction][stuff])
				}
			}
		}
		fraction, stuff := r.Intn(len(v.kilos)), r.Intn(len(v.load.Stuffs))
		limit := min(api.MaxKilos, max(0, v.kilos[fraction][stuff]+between(r, -50, 50)))
		is, e := mix.Pure(v.load, fraction, stuff, limit)
		isPure := v.kilos[fraction][stuff] <= limit
		if e != api.OK || is < api.Always || is > api.Unsure || is == api.Always && !isPure || is == api.Nowhere && isPure {
			t.Fatalf("%v: Pure %d %d of %d in %d, limit %d", v.load, is, e, stuff, fraction, limit)
		}
	}
}

// smallLoad returns a load with few truths, sometimes with a weighing that may contradict the others.
func smallLoad(r *rand.Rand) api.Load {
	stuffs, splits := between(r, 1, 4), between(r, 0, 4)
	most := []int{4, 3, 2, 1}[stuffs-1]
	if splits < 2 {
		most += 3
	}
	l := live(r, stuffs, splits, most, between(r, 0, 1)).load
	if len(l.Weighed) > 0 && r.Intn(2) == 0 {
		kilos := &l.Weighed[r.Intn(len(l.Weighed))].Kilos
		by := between(r, -2, 2)
		*kilos = rng(max(0, kilos.Min+by), max(0, kilos.Max+by))
	}
	return l
}

// matches fails unless Holds, Weights and Pure say of a load what its truths say, times so many.
func matches(t *testing.T, l api.Load, all told, times int) {
	t.Helper()
	holds, e := mix.Holds(l)
	weights, f := mix.Weights(l)
	is, g := mix.Pure(l, 0, 0, 0)
	if !all.some {
		if e != api.ErrConflict || f != api.ErrConflict || g != api.ErrConflict || holds != nil || weights != nil || is != 0 {
			t.Fatalf("%v is not possible: %v %d, %v %d, %d %d", l, holds, e, weights, f, is, g)
		}
		return
	}
	if e != api.OK || f != api.OK || g != api.OK || len(holds) != len(all.holds) || len(weights) != len(all.weights) {
		t.Fatalf("%v is possible: %v %d, %v %d, %d %d", l, holds, e, weights, f, is, g)
	}
	for fraction, weight := range all.weights {
		if weights[fraction] != rng(weight.r.Min*times, weight.r.Max*times) {
			t.Fatalf("%v: Weights %v, not %v", l, weights, all.weights)
		}
		for stuff, hold := range all.holds[fraction] {
			want := rng(hold.r.Min*times, hold.r.Max*times)
			if holds[fraction][stuff] != want {
				t.Fatalf("%v: Holds %v, not %v", l, holds, all.holds)
			}
			for _, limit := range []int{want.Min - 1, want.Min, want.Max - 1, want.Max} {
				if is, e := mix.Pure(l, fraction, stuff, limit); limit >= 0 && (e != api.OK || is != verdictOf(want, limit)) {
					t.Fatalf("%v: Pure %d %d of %d in %d, limit %d", l, is, e, stuff, fraction, limit)
				}
			}
		}
	}
}

// scaled returns a load with all its kilograms times so many.
func scaled(l api.Load, times int) api.Load {
	l = copyLoad(l)
	for stuff, r := range l.Stuffs {
		l.Stuffs[stuff] = rng(r.Min*times, r.Max*times)
	}
	for s := range l.Splits {
		for stuff := range l.Splits[s].Wrong {
			l.Splits[s].Wrong[stuff] *= times
		}
	}
	for i, weighed := range l.Weighed {
		l.Weighed[i].Kilos = rng(weighed.Kilos.Min*times, weighed.Kilos.Max*times)
	}
	return l
}

// TestP2_6All: all truths of small loads are gone through; both ends of each range are reached, none is beyond, and a load is possible just if there is one. With all kilograms times so many, both ends are, too.
func TestP2_6All(t *testing.T) {
	r := rand.New(rand.NewSource(6))
	conflicts := 0
	for range 2000 {
		l := smallLoad(r)
		all := tryAll(l)
		if !all.some {
			conflicts++
		}
		matches(t, l, all, 1)
		if r.Intn(4) == 0 {
			matches(t, scaled(l, 4999), all, 4999)
		}
	}
	if conflicts < 200 || conflicts > 1000 {
		t.Error("too few loads were looked at", conflicts)
	}
}

// TestP2_7Kept: of one material a fraction holds what it weighs; new fractions hold at most what the old one held, and together no less.
func TestP2_7Kept(t *testing.T) {
	r := rand.New(rand.NewSource(7))
	for range 400 {
		stuffs := between(r, 1, 4)
		l := live(r, stuffs, between(r, 0, 4), 50000, []int{2, 3000}[r.Intn(2)]).load
		holds, e := mix.Holds(l)
		weights, f := mix.Weights(l)
		if e != api.OK || f != api.OK {
			t.Fatalf("%v: %d %d", l, e, f)
		}
		for fraction := range holds {
			if stuffs == 1 && holds[fraction][0] != weights[fraction] {
				t.Fatalf("%v: the fraction %d holds %v, but weighs %v", l, fraction, holds[fraction], weights[fraction])
			}
		}
		for s, split := range l.Splits {
			for stuff, old := range holds[split.Of] {
				pulled, rest := holds[2*s+1][stuff], holds[2*s+2][stuff]
				if pulled.Max > old.Max || rest.Max > old.Max || pulled.Max+rest.Max < old.Max {
					t.Fatalf("%v: %v of %d, split into %v and %v", l, old, stuff, pulled, rest)
				}
			}
		}
	}
}

// narrowed returns a random range within one.
func narrowed(r *rand.Rand, wide api.Range) api.Range {
	low := between(r, wide.Min, wide.Max)
	return rng(low, between(r, low, wide.Max))
}

// better returns a load of which more is known: one more weighing, fewer errors, or a narrower range.
func better(r *rand.Rand, v life) api.Load {
	l := copyLoad(v.load)
	choice := r.Intn(4)
	switch {
	case choice == 0 && len(l.Splits) > 0:
		wrong := l.Splits[r.Intn(len(l.Splits))].Wrong
		stuff := r.Intn(len(wrong))
		wrong[stuff] = r.Intn(wrong[stuff] + 1)
	case choice == 1 && len(l.Weighed) > 0:
		i := r.Intn(len(l.Weighed))
		l.Weighed[i].Kilos = narrowed(r, l.Weighed[i].Kilos)
	case choice == 2:
		stuff := r.Intn(len(l.Stuffs))
		l.Stuffs[stuff] = narrowed(r, l.Stuffs[stuff])
	default:
		fraction := r.Intn(len(v.kilos))
		isWeighed := slices.ContainsFunc(l.Weighed, func(w api.Weighed) bool { return w.Fraction == fraction })
		if weight := sum(v.kilos[fraction]); !isWeighed && weight <= api.MaxKilos {
			l.Weighed = append(l.Weighed, api.Weighed{Fraction: fraction, Kilos: around(r, weight, 5)})
		}
	}
	return l
}

// TestP2_8Weighed: if more is known, nothing is wider, and a verdict that was sure stays.
func TestP2_8Weighed(t *testing.T) {
	r := rand.New(rand.NewSource(8))
	narrower := 0
	for range 1000 {
		v := live(r, between(r, 1, 4), between(r, 0, 4), 20000, []int{3, 500}[r.Intn(2)])
		more := better(r, v)
		holds, e := mix.Holds(more)
		if e == api.ErrConflict {
			continue
		}
		weights, old := first(mix.Weights(more)), first(mix.Weights(v.load))
		for fraction, list := range first(mix.Holds(v.load)) {
			if !inside(weights[fraction], old[fraction]) {
				t.Fatalf("%v, then %v: the fraction %d weighs wider", v.load, more, fraction)
			}
			for stuff, wide := range list {
				if !inside(holds[fraction][stuff], wide) {
					t.Fatalf("%v, then %v: the fraction %d holds wider", v.load, more, fraction)
				}
				if holds[fraction][stuff] != wide {
					narrower++
				}
				limit := between(r, max(0, wide.Min-2), wide.Max)
				before, after := first(mix.Pure(v.load, fraction, stuff, limit)), first(mix.Pure(more, fraction, stuff, limit))
				if before != api.Unsure && after != before {
					t.Fatalf("%v, then %v: Pure %d, then %d", v.load, more, before, after)
				}
			}
		}
	}
	if narrower < 500 {
		t.Error("too few loads were looked at", narrower)
	}
}

// renamed returns a load whose materials are numbered otherwise: the new one stuff was the old one order[stuff].
func renamed(l api.Load, order []int) api.Load {
	other := copyLoad(l)
	for stuff, old := range order {
		other.Stuffs[stuff] = l.Stuffs[old]
		for s := range l.Splits {
			other.Splits[s].Pulls[stuff], other.Splits[s].Wrong[stuff] = l.Splits[s].Pulls[old], l.Splits[s].Wrong[old]
		}
	}
	return other
}

// turned returns a load with all signs of a split turned round, and a function that tells the new number of a fraction.
func turned(l api.Load, s int) (api.Load, func(fraction int) int) {
	other := copyLoad(l)
	number := func(fraction int) int {
		switch fraction {
		case 2*s + 1:
			return 2*s + 2
		case 2*s + 2:
			return 2*s + 1
		}
		return fraction
	}
	for stuff := range l.Stuffs {
		other.Splits[s].Pulls[stuff] = !l.Splits[s].Pulls[stuff]
	}
	for i := range other.Splits {
		other.Splits[i].Of = number(other.Splits[i].Of)
	}
	for i := range other.Weighed {
		other.Weighed[i].Fraction = number(other.Weighed[i].Fraction)
	}
	return other, number
}

// TestP2_9Named: under other numbers of materials and fractions the same is said.
func TestP2_9Named(t *testing.T) {
	r := rand.New(rand.NewSource(9))
	conflicts := 0
	for range 500 {
		l := live(r, between(r, 1, 4), between(r, 1, 4), 20000, 300).load
		if r.Intn(5) == 0 {
			l.Weighed = []api.Weighed{{Fraction: 2, Kilos: rng(100000, 100000)}}
		}
		order := r.Perm(len(l.Stuffs))
		other, number := turned(renamed(l, order), r.Intn(len(l.Splits)))
		holds, e := mix.Holds(l)
		weights := first(mix.Weights(l))
		otherHolds, f := mix.Holds(other)
		otherWeights := first(mix.Weights(other))
		if e != f {
			t.Fatalf("%v: %d, but %v: %d", l, e, other, f)
		}
		if e != api.OK {
			conflicts++
		}
		for fraction := range holds {
			if weights[fraction] != otherWeights[number(fraction)] {
				t.Fatalf("%v: %v, but %v: %v", l, weights, other, otherWeights)
			}
			for stuff, old := range order {
				limit := holds[fraction][old].Min
				is, g := mix.Pure(l, fraction, old, limit)
				otherIs, h := mix.Pure(other, number(fraction), stuff, limit)
				if holds[fraction][old] != otherHolds[number(fraction)][stuff] || is != otherIs || g != h {
					t.Fatalf("%v: %v %d, but %v: %v %d", l, holds, is, other, otherHolds, otherIs)
				}
			}
		}
	}
	if conflicts < 10 || conflicts > 250 {
		t.Error("too few loads were looked at", conflicts)
	}
}

// payFor returns what is paid of a load with so many kilograms of dirt, counted kilogram by kilogram.
func payFor(gross, dirt int, terms []api.Term) int {
	deduction := 0
	for kilo := 1; kilo <= dirt; kilo++ {
		for _, term := range terms {
			if kilo > term.Above {
				deduction += term.Times
			}
		}
	}
	return max(0, gross-deduction)
}

// TestP2_10Paid: what is paid is looked for with all kilograms of dirt; both ends are reached, and more dirt is never paid better.
func TestP2_10Paid(t *testing.T) {
	r := rand.New(rand.NewSource(10))
	for range 2000 {
		gross := r.Intn(60)
		dirt := rng(r.Intn(gross+1), 0)
		dirt.Max = dirt.Min + r.Intn(40)
		var terms []api.Term
		above := r.Intn(5)
		for range r.Intn(5) {
			terms = append(terms, api.Term{Above: above, Times: r.Intn(4) * r.Intn(3)})
			above += between(r, 1, 10)
		}
		var want found
		before := gross
		for kilos := dirt.Min; kilos <= min(dirt.Max, gross); kilos++ {
			paid := payFor(gross, kilos, terms)
			want.add(paid)
			alone, e := mix.Paid(gross, rng(kilos, kilos), terms)
			if e != api.OK || alone != rng(paid, paid) || paid > before {
				t.Fatalf("%d, %d, %v: %v %d, not %d, after %d", gross, kilos, terms, alone, e, paid, before)
			}
			before = paid
		}
		if paid, e := mix.Paid(gross, dirt, terms); e != api.OK || paid != want.r {
			t.Fatalf("%d, %v, %v: %v %d, not %v", gross, dirt, terms, paid, e, want.r)
		}
	}
}
