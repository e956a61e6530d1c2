package mix_test

import (
	"math/rand"
	"slices"

	"swarf/api"
)

// rng returns a range.
func rng(low, high int) api.Range { return api.Range{Min: low, Max: high} }

// loadL is L of the chapter's examples.
func loadL() api.Load {
	return api.Load{
		Stuffs:  []api.Range{rng(30, 50), rng(10, 40)},
		Splits:  []api.Split{{Pulls: []bool{true, false}, Wrong: []int{5, 3}}},
		Weighed: []api.Weighed{{Kilos: rng(70, 70)}, {Fraction: 1, Kilos: rng(40, 42)}},
	}
}

// withLoad returns L with a change.
func withLoad(change func(l *api.Load)) api.Load {
	l := loadL()
	change(&l)
	return l
}

// copyLoad returns a copy that shares no memory.
func copyLoad(l api.Load) api.Load {
	l.Stuffs, l.Splits, l.Weighed = slices.Clone(l.Stuffs), slices.Clone(l.Splits), slices.Clone(l.Weighed)
	for s := range l.Splits {
		split := &l.Splits[s]
		split.Pulls, split.Wrong = slices.Clone(split.Pulls), slices.Clone(split.Wrong)
	}
	return l
}

// sameLoad tells whether two loads are equal.
func sameLoad(a, b api.Load) bool {
	return slices.Equal(a.Stuffs, b.Stuffs) && slices.Equal(a.Weighed, b.Weighed) && slices.EqualFunc(a.Splits, b.Splits, func(x, y api.Split) bool {
		return x.Of == y.Of && slices.Equal(x.Pulls, y.Pulls) && slices.Equal(x.Wrong, y.Wrong)
	})
}

// sameHolds tells whether two lists of ranges are equal.
func sameHolds(a, b [][]api.Range) bool { return slices.EqualFunc(a, b, slices.Equal[[]api.Range]) }

// sum returns all numbers of a list together.
func sum(list []int) int {
	all := 0
	for _, n := range list {
		all += n
	}
	return all
}

// isTruth tells whether a load may have these kilograms, by fraction and material.
func isTruth(l api.Load, kilos [][]int) bool {
	for stuff, r := range l.Stuffs {
		if !has(r, kilos[0][stuff]) {
			return false
		}
	}
	for s, split := range l.Splits {
		pulled, rest := kilos[2*s+1], kilos[2*s+2]
		for stuff := range l.Stuffs {
			astray := rest[stuff]
			if !split.Pulls[stuff] {
				astray = pulled[stuff]
			}
			if pulled[stuff] < 0 || rest[stuff] < 0 || pulled[stuff]+rest[stuff] != kilos[split.Of][stuff] || astray > split.Wrong[stuff] {
				return false
			}
		}
	}
	for _, weighed := range l.Weighed {
		if !has(weighed.Kilos, sum(kilos[weighed.Fraction])) {
			return false
		}
	}
	return true
}

// truths goes through all truths of a load and visits the kilograms of each one, by fraction and material. What comes in and what is pulled is tried number by number.
func truths(l api.Load, visit func(kilos [][]int)) {
	stuffs := len(l.Stuffs)
	kilos := make([][]int, 2*len(l.Splits)+1)
	for fraction := range kilos {
		kilos[fraction] = make([]int, stuffs)
	}
	var at func(choice int)
	at = func(choice int) {
		s, stuff := choice/stuffs-1, choice%stuffs
		switch {
		case s == len(l.Splits):
			if isTruth(l, kilos) {
				visit(kilos)
			}
		case s < 0:
			for n := l.Stuffs[stuff].Min; n <= l.Stuffs[stuff].Max; n++ {
				kilos[0][stuff] = n
				at(choice + 1)
			}
		default:
			came := kilos[l.Splits[s].Of][stuff]
			for n := 0; n <= came; n++ {
				kilos[2*s+1][stuff], kilos[2*s+2][stuff] = n, came-n
				at(choice + 1)
			}
		}
	}
	at(0)
}

// found is a range that grows with each number that is added; some tells whether there was one.
type found struct {
	r    api.Range
	some bool
}

func (f *found) add(n int) {
	if !f.some {
		f.r, f.some = rng(n, n), true
	}
	f.r = rng(min(f.r.Min, n), max(f.r.Max, n))
}

// told is all that can be said of a load.
type told struct {
	holds   [][]found
	weights []found
	some    bool
}

// tryAll says all of a load by going through all truths.
func tryAll(l api.Load) told {
	all := told{weights: make([]found, 2*len(l.Splits)+1)}
	for range all.weights {
		all.holds = append(all.holds, make([]found, len(l.Stuffs)))
	}
	truths(l, func(kilos [][]int) {
		all.some = true
		for fraction, holds := range kilos {
			all.weights[fraction].add(sum(holds))
			for stuff, n := range holds {
				all.holds[fraction][stuff].add(n)
			}
		}
	})
	return all
}

// between returns a random number from low to high.
func between(r *rand.Rand, low, high int) int { return low + r.Intn(high-low+1) }

// around returns a random range of kilograms that has n in it.
func around(r *rand.Rand, n, wide int) api.Range {
	return rng(max(0, n-r.Intn(wide+1)), min(api.MaxKilos, n+r.Intn(wide+1)))
}

// life is a load with the kilograms that truly were in its fractions.
type life struct {
	load  api.Load
	kilos [][]int
}

// live returns a random load with the truth that it was made of: up to most kilograms of each material, and ranges that go up to wide beyond the truth.
func live(r *rand.Rand, stuffs, splits, most, wide int) life {
	v := life{kilos: [][]int{nil}}
	for range stuffs {
		n := r.Intn(most + 1)
		v.kilos[0] = append(v.kilos[0], n)
		v.load.Stuffs = append(v.load.Stuffs, around(r, n, wide))
	}
	left := []int{0}
	for s := range splits {
		i := r.Intn(len(left))
		of := left[i]
		left = append(slices.Delete(left, i, i+1), 2*s+1, 2*s+2)
		split, pulled, rest := sorted(r, v.kilos[of], wide)
		split.Of = of
		v.load.Splits = append(v.load.Splits, split)
		v.kilos = append(v.kilos, pulled, rest)
	}
	for _, fraction := range r.Perm(len(v.kilos)) {
		weight := sum(v.kilos[fraction])
		if r.Intn(2) == 0 && weight <= api.MaxKilos {
			v.load.Weighed = append(v.load.Weighed, api.Weighed{Fraction: fraction, Kilos: around(r, weight, r.Intn(wide+1))})
		}
	}
	return v
}

// sorted returns a random split of a fraction that holds so much, and what both new ones hold.
func sorted(r *rand.Rand, holds []int, wide int) (split api.Split, pulled, rest []int) {
	for _, n := range holds {
		isPulled, astray := r.Intn(2) == 0, r.Intn(min(n, wide)+1)
		if r.Intn(8) == 0 {
			astray = r.Intn(n + 1)
		}
		split.Pulls = append(split.Pulls, isPulled)
		split.Wrong = append(split.Wrong, min(api.MaxKilos, astray+r.Intn(wide+1)))
		if isPulled {
			pulled, rest = append(pulled, n-astray), append(rest, astray)
		} else {
			pulled, rest = append(pulled, astray), append(rest, n-astray)
		}
	}
	return split, pulled, rest
}

// inside tells whether a lies in b.
func inside(a, b api.Range) bool { return b.Min <= a.Min && a.Max <= b.Max }

// has tells whether n lies in r.
func has(r api.Range, n int) bool { return r.Min <= n && n <= r.Max }
