package melt_test

import (
	"math"
	"math/rand"
	"slices"
	"strings"
	"testing"

	"swarf/api"
	"swarf/melt"
)

const a, n, u = api.Always, api.Nowhere, api.Unsure

// orderErrors are orders with their first errors, in the chapter's order: each one has an error that comes later, too, where there is one.
var orderErrors = []struct {
	name   string
	change func(o *api.Order)
	want   api.Errno
}{
	{"as it is", func(o *api.Order) {}, api.OK},
	{"4 limits", func(o *api.Order) { o.Limits = []int{-1, 0, 0, 0} }, api.ErrMany},
	{"3 limits", func(o *api.Order) {
		o.Limits = append(o.Limits, 0)
		for at := range o.Bins {
			o.Bins[at].Grams = append(o.Bins[at].Grams, rng(0, 0))
		}
	}, api.OK},
	{"no limit", func(o *api.Order) { *o = orderP(3, 3) }, api.OK},
	{"an empty list", func(o *api.Order) { *o = orderP(3, 3); o.Limits, o.Bins[0].Grams = []int{}, []api.Range{} }, api.OK},
	{"the limit -1", func(o *api.Order) { o.Limits[1], o.Least = -1, 12001 }, api.ErrValue},
	{"the limit 0", func(o *api.Order) { o.Limits[1] = 0 }, api.OK},
	{"the limit 1000000", func(o *api.Order) { o.Limits[0] = 1000000 }, api.OK},
	{"the limit 1000001", func(o *api.Order) { o.Limits[0], o.Least = 1000001, 12001 }, api.ErrValue},
	{"Least -1", func(o *api.Order) { o.Least, o.Bins = -1, nil }, api.ErrValue},
	{"Least 240001", func(o *api.Order) { o.Least = 240001 }, api.ErrValue},
	{"Most -1", func(o *api.Order) { o.Most = -1 }, api.ErrValue},
	{"Most 240001", func(o *api.Order) { o.Most, o.Bins = 240001, nil }, api.ErrValue},
	{"Least is Most", func(o *api.Order) { o.Least = 12000 }, api.OK},
	{"Least above Most", func(o *api.Order) { o.Least, o.Bins = 12001, nil }, api.ErrOrder},
	{"from 0 to 240000", func(o *api.Order) { o.Least, o.Most = 0, 240000 }, api.OK},
	{"no bin", func(o *api.Order) { o.Bins = nil }, api.ErrFew},
	{"an empty list of bins", func(o *api.Order) { o.Bins = []api.Bin{} }, api.ErrFew},
	{"4 bins", func(o *api.Order) { o.Bins = append(o.Bins, o.Bins[0]) }, api.OK},
	{"5 bins", func(o *api.Order) { o.Bins = make([]api.Bin, 5) }, api.ErrMany},
	{"too few ranges", func(o *api.Order) { o.Bins[1].Grams = []api.Range{rng(2, 1)} }, api.ErrForm},
	{"too many ranges", func(o *api.Order) { o.Bins[1].Grams = []api.Range{rng(2, 1), {}, {}} }, api.ErrForm},
	{"no range", func(o *api.Order) { o.Bins[2].Grams, o.Bins[2].Weight = nil, 0 }, api.ErrForm},
	{"the first bin first", func(o *api.Order) { o.Bins[0].Grabs, o.Bins[1].Grams = 7, nil }, api.ErrValue},
	{"the grams -1", func(o *api.Order) { o.Bins[0].Grams[0] = rng(-1, -2) }, api.ErrValue},
	{"the grams 1000001", func(o *api.Order) { o.Bins[0].Grams[1] = rng(0, 1000001) }, api.ErrValue},
	{"grams from 1000001", func(o *api.Order) { o.Bins[0].Grams[1] = rng(1000001, 0) }, api.ErrValue},
	{"grams from 0 to 1000000", func(o *api.Order) { o.Bins[0].Grams[1] = rng(0, 1000000) }, api.OK},
	{"grams the other way round", func(o *api.Order) { o.Bins[2].Grams[1], o.Bins[2].Weight = rng(301, 300), 0 }, api.ErrOrder},
	{"the first range first", func(o *api.Order) { o.Bins[2].Grams = []api.Range{rng(2, 1), rng(-1, 0)} }, api.ErrOrder},
	{"a value before the order", func(o *api.Order) { o.Bins[2].Grams = []api.Range{rng(-1, 0), rng(2, 1)} }, api.ErrValue},
	{"Weight 0", func(o *api.Order) { o.Bins[0].Weight = 0 }, api.ErrValue},
	{"Weight 1", func(o *api.Order) { o.Bins[0].Weight = 1 }, api.OK},
	{"Weight 10000", func(o *api.Order) { o.Bins[0].Weight = 10000 }, api.OK},
	{"Weight 10001", func(o *api.Order) { o.Bins[0].Weight, o.Bins[1].Grams = 10001, nil }, api.ErrValue},
	{"Cost -1", func(o *api.Order) { o.Bins[2].Cost = -1 }, api.ErrValue},
	{"Cost 0", func(o *api.Order) { o.Bins[2].Cost = 0 }, api.OK},
	{"Cost 10000000", func(o *api.Order) { o.Bins[2].Cost = 10000000 }, api.OK},
	{"Cost 10000001", func(o *api.Order) { o.Bins[1].Cost, o.Bins[2].Grams = 10000001, nil }, api.ErrValue},
	{"Grabs -1", func(o *api.Order) { o.Bins[2].Grabs = -1 }, api.ErrValue},
	{"Grabs 0", func(o *api.Order) { o.Bins[2].Grabs = 0 }, api.OK},
	{"Grabs 6", func(o *api.Order) { o.Bins[2].Grabs = 6 }, api.OK},
	{"Grabs 7", func(o *api.Order) { o.Bins[2].Grabs = 7 }, api.ErrValue},
}

// TestP6_1Check: Check, and all functions that return its error first.
func TestP6_1Check(t *testing.T) {
	for _, c := range orderErrors {
		o := withO(c.change)
		if e := melt.Check(o); e != c.want {
			t.Errorf("%s: Check %d, not %d", c.name, e, c.want)
		}
		if c.want == api.OK {
			continue
		}
		kilos, cost, e1 := melt.Weigh(o, nil)
		keeps, e2 := melt.Keeps(o, nil)
		blend, price, e3 := melt.Cheapest(o)
		proof, e4 := melt.Prove(o, -1)
		e5 := melt.Verify(o, -1, make([]api.Bound, 6001))
		for i, e := range []api.Errno{e1, e2, e3, e4, e5} {
			if e != c.want {
				t.Errorf("%s: function %d returns %d, not %d", c.name, i, e, c.want)
			}
		}
		if kilos != 0 || cost != 0 || keeps != 0 || blend != nil || price != 0 || proof != nil {
			t.Errorf("%s: results beside an error", c.name)
		}
	}
}

// TestP6_1Blend: what blends weigh and cost, whether they keep all limits, and the errors of blends.
func TestP6_1Blend(t *testing.T) {
	for _, c := range []struct {
		name               string
		o                  api.Order
		blend              []int
		kilos, cost, keeps int
		e                  api.Errno
	}{
		{"the cheapest", orderO(), []int{2, 2, 2}, 10000, 200, a, api.OK},
		{"too much copper perhaps", orderO(), []int{2, 3, 2}, 12000, 230, u, api.OK},
		{"too much copper", orderO(), []int{0, 4, 2}, 10000, 160, n, api.OK},
		{"nothing", orderO(), []int{0, 0, 0}, 0, 0, a, api.OK},
		{"all, too heavy", orderO(), []int{4, 4, 3}, 19000, 380, u, api.OK},
		{"just the limit of copper", orderO(), []int{4, 1, 0}, 10000, 230, a, api.OK},
		{"too much tin, too light", orderO(), []int{0, 0, 1}, 1000, 20, n, api.OK},
		{"too much tin perhaps", orderO(), []int{1, 0, 1}, 3000, 70, u, api.OK},
		{"too much tin, copper perhaps", orderO(), []int{1, 1, 3}, 7000, 140, u, api.OK},
		{"one bin", orderP(3, 3), []int{4}, 4, 20, a, api.OK},
		{"fits not", orderP(3, 3), []int{0}, 0, 0, a, api.OK},
		{"just the limit", limited(7, scrap(rng(7, 7), 3, 1, 6)), []int{6}, 18, 6, a, api.OK},
		{"above it", limited(6, scrap(rng(7, 7), 3, 1, 6)), []int{1}, 3, 1, n, api.OK},
		{"up to above it", limited(6, scrap(rng(6, 7), 3, 1, 6)), []int{1}, 3, 1, u, api.OK},
		{"weights count", limited(6, scrap(rng(8, 8), 1, 0, 6), scrap(rng(5, 5), 2, 0, 6)), []int{1, 1}, 3, 0, a, api.OK},
		{"a grab more of it", limited(6, scrap(rng(8, 8), 1, 0, 6), scrap(rng(5, 5), 2, 0, 6)), []int{2, 1}, 4, 0, n, api.OK},
		{"the greatest numbers", greatest(rng(0, 1000000)), []int{6, 6, 6, 6}, 240000, 240000000, u, api.OK},
		{"all of it is metal", greatest(rng(1000000, 1000000)), []int{6, 6, 6, 6}, 240000, 240000000, n, api.OK},
		{"none of it is", greatest(rng(0, 0)), []int{6, 6, 6, 6}, 240000, 240000000, a, api.OK},
		{"too few", orderO(), []int{2, 2}, 0, 0, 0, api.ErrForm},
		{"too many", orderO(), []int{9, 2, 2, 2}, 0, 0, 0, api.ErrForm},
		{"none", orderO(), nil, 0, 0, 0, api.ErrForm},
		{"too many grabs of 0", orderO(), []int{5, 0, 0}, 0, 0, 0, api.ErrValue},
		{"too many grabs of 2", orderO(), []int{0, 0, 4}, 0, 0, 0, api.ErrValue},
		{"-1 grabs", orderO(), []int{0, -1, 0}, 0, 0, 0, api.ErrValue},
		{"far above", orderO(), []int{0, 0, math.MaxInt}, 0, 0, 0, api.ErrValue},
	} {
		kilos, cost, e := melt.Weigh(c.o, c.blend)
		if kilos != c.kilos || cost != c.cost || e != c.e {
			t.Errorf("%s: Weigh %d %d %d, not %d %d %d", c.name, kilos, cost, e, c.kilos, c.cost, c.e)
		}
		if keeps, e := melt.Keeps(c.o, c.blend); keeps != c.keeps || e != c.e {
			t.Errorf("%s: Keeps %d %d, not %d %d", c.name, keeps, e, c.keeps, c.e)
		}
	}
}

// TestP6_1Metals: all limits together are kept always just if each one is, and nowhere if one is kept nowhere.
func TestP6_1Metals(t *testing.T) {
	ranges := map[int]api.Range{a: rng(1, 5), u: rng(5, 6), n: rng(6, 9)}
	for first, one := range ranges {
		for second, other := range ranges {
			want := u
			switch {
			case first == n || second == n:
				want = n
			case first == a && second == a:
				want = a
			}
			o := api.Order{Limits: []int{5, 5}, Bins: []api.Bin{{Grams: []api.Range{one, other}, Weight: 2, Grabs: 1}}}
			if keeps, e := melt.Keeps(o, []int{1}); keeps != want || e != api.OK {
				t.Errorf("%d and %d: %d %d, not %d", first, second, keeps, e, want)
			}
		}
	}
}

// TestP6_2Cheapest: the cheapest good blend, of several the first one, or that there is none.
func TestP6_2Cheapest(t *testing.T) {
	same := scrap(rng(0, 0), 1, 3, 6)
	for _, c := range []struct {
		name string
		o    api.Order
		want []int
		cost int
		e    api.Errno
	}{
		{"O", orderO(), []int{2, 2, 2}, 200, api.OK},
		{"O with one grab of the bin 2", withO(func(o *api.Order) { o.Bins[2].Grabs = 1 }), []int{4, 1, 0}, 230, api.OK},
		{"O with a cheap bin 0", withO(func(o *api.Order) { o.Bins[0].Cost = 30 }), []int{4, 1, 0}, 150, api.OK},
		{"O with Least 0", withO(func(o *api.Order) { o.Least = 0 }), []int{0, 0, 0}, 0, api.OK},
		{"O with low limits", withO(func(o *api.Order) { o.Limits = []int{299, 19} }), nil, 0, api.ErrLimit},
		{"O with less tin", withO(func(o *api.Order) { o.Limits[1] = 91 }), []int{4, 1, 0}, 230, api.OK},
		{"P", orderP(3, 3), []int{3}, 15, api.OK},
		{"P from 2 on", orderP(2, 3), []int{2}, 10, api.OK},
		{"P with 5", orderP(5, 5), nil, 0, api.ErrLimit},
		{"P with nothing", orderP(0, 0), []int{0}, 0, api.OK},
		{"no grabs", limited(0, scrap(rng(0, 0), 1, 3, 0)), []int{0}, 0, api.OK},
		{"the last bin first", api.Order{Least: 2, Most: 2, Limits: []int{0}, Bins: []api.Bin{same, same, same, same}}, []int{0, 0, 0, 2}, 6, api.OK},
		{"few grabs of it", api.Order{Least: 8, Most: 8, Limits: []int{0}, Bins: []api.Bin{same, same}}, []int{2, 6}, 24, api.OK},
		{"for nothing", api.Order{Least: 0, Most: 9, Bins: []api.Bin{{Weight: 1, Grabs: 6}}}, []int{0}, 0, api.OK},
		{"heavier, but cheaper", api.Order{Least: 3, Most: 4, Bins: []api.Bin{{Weight: 3, Cost: 9, Grabs: 1}, {Weight: 4, Cost: 8, Grabs: 1}}}, []int{0, 1}, 8, api.OK},
		{"too heavy", api.Order{Least: 3, Most: 3, Bins: []api.Bin{{Weight: 3, Cost: 9, Grabs: 1}, {Weight: 4, Cost: 8, Grabs: 1}}}, []int{1, 0}, 9, api.OK},
		{"between two grabs", api.Order{Least: 3, Most: 3, Bins: []api.Bin{{Weight: 2, Grabs: 6}}}, nil, 0, api.ErrLimit},
		{"a limit that may be broken", api.Order{Limits: []int{5}, Least: 1, Most: 1, Bins: []api.Bin{scrap(rng(0, 6), 1, 1, 1), scrap(rng(5, 5), 1, 2, 1)}}, []int{0, 1}, 2, api.OK},
		{"as much as may be", api.Order{Limits: []int{0}, Least: 240000, Most: 240000, Bins: greatest(rng(0, 0)).Bins}, []int{6, 6, 6, 6}, 240000000, api.OK},
		{"as much as may be, not good", api.Order{Limits: []int{0}, Least: 240000, Most: 240000, Bins: greatest(rng(0, 1)).Bins}, nil, 0, api.ErrLimit},
	} {
		if blend, cost, e := melt.Cheapest(c.o); !slices.Equal(blend, c.want) || cost != c.cost || e != c.e {
			t.Errorf("%s: %v %d %d, not %v %d %d", c.name, blend, cost, e, c.want, c.cost, c.e)
		}
	}
}

// twoBins is an order of two bins: all of the first one is too bad, and of the second one there is not enough.
func twoBins() api.Order {
	return api.Order{Limits: []int{10}, Least: 3, Most: 3, Bins: []api.Bin{scrap(rng(11, 20), 1, 1, 3), scrap(rng(0, 9), 1, 7, 2)}}
}

// twoMetals is an order of which both limits are broken, if anything is taken.
func twoMetals() api.Order {
	return api.Order{Limits: []int{5, 5}, Least: 1, Most: 1, Bins: []api.Bin{{Grams: []api.Range{rng(0, 6), rng(0, 7)}, Weight: 1, Cost: 2, Grabs: 1}}}
}

// TestP6_3Prove: plain proofs, and all errors in their order.
func TestP6_3Prove(t *testing.T) {
	for _, c := range []struct {
		name  string
		o     api.Order
		price int
		want  []api.Bound
		e     api.Errno
	}{
		{"P", orderP(3, 3), 15, list(cut(0, 2), light, dear), api.OK},
		{"a cent more", orderP(3, 3), 16, nil, api.ErrLimit},
		{"the greatest price", orderP(3, 3), 300000000, nil, api.ErrLimit},
		{"a lower price", orderP(3, 3), 11, list(cut(0, 2), light, dear), api.OK},
		{"all is dear", orderP(3, 3), 0, list(dear), api.OK},
		{"all is dear, but too light, too", orderP(5, 5), 0, list(light), api.OK},
		{"all is too light", orderP(5, 5), 300000000, list(light), api.OK},
		{"nothing is cheaper", orderP(0, 0), 0, list(dear), api.OK},
		{"nothing is good", orderP(0, 0), 1, nil, api.ErrLimit},
		{"too heavy", orderP(1, 1), 5, list(cut(0, 2), cut(0, 1), cut(0, 0), light, dear, heavy, heavy), api.OK},
		{"too heavy before too dear", orderP(1, 1), 1, list(cut(0, 2), cut(0, 1), cut(0, 0), light, dear, heavy, heavy), api.OK},
		{"two bins", twoBins(), 100, list(cut(0, 1), cut(0, 0), light, broken(0), broken(0)), api.OK},
		{"the first metal first", twoMetals(), 100, list(cut(0, 0), light, broken(0)), api.OK},
		{"broken before dear", twoMetals(), 1, list(cut(0, 0), light, broken(0)), api.OK},
		{"the second metal alone", api.Order{Limits: []int{6, 5}, Least: 1, Most: 1, Bins: twoMetals().Bins}, 100, list(cut(0, 0), light, broken(1)), api.OK},
		{"a bin without grabs", api.Order{Least: 1, Most: 9, Bins: []api.Bin{{Weight: 1}, {Weight: 1, Cost: 1, Grabs: 3}}}, 1, list(cut(1, 1), cut(1, 0), light, dear, dear), api.OK},
		{"just the limit", limited(10, scrap(rng(0, 10), 1, 0, 1)), 1, nil, api.ErrLimit},
		{"the price -1", orderP(3, 3), -1, nil, api.ErrValue},
		{"the price 300000001", orderP(3, 3), 300000001, nil, api.ErrValue},
		{"far above", orderP(5, 5), math.MaxInt, nil, api.ErrValue},
	} {
		proof, e := melt.Prove(c.o, c.price)
		if !slices.Equal(proof, c.want) || e != c.e {
			t.Errorf("%s: %v %d, not %v %d", c.name, proof, e, c.want, c.e)
		}
		if e := melt.Verify(c.o, c.price, proof); c.e == api.OK && e != api.OK {
			t.Errorf("%s: Verify %d", c.name, e)
		}
	}
}

// TestP6_3Verify: proofs that are right, and all errors in their order.
func TestP6_3Verify(t *testing.T) {
	unsaid := func(reason int) []api.Bound { return list(api.Bound{Reason: reason, At: -9, Cut: math.MaxInt}) }
	for _, c := range []struct {
		name  string
		o     api.Order
		price int
		proof []api.Bound
		want  api.Errno
	}{
		{"the plain one", orderP(3, 3), 15, list(cut(0, 2), light, dear), api.OK},
		{"another one", orderP(3, 3), 15, list(cut(0, 0), light, cut(0, 1), light, cut(0, 2), light, dear), api.OK},
		{"a cut just below the greatest number", orderP(3, 3), 15, list(cut(0, 3), cut(0, 2), light, dear, heavy), api.OK},
		{"At and Cut of dear do not matter", orderP(3, 3), 0, unsaid(api.ByDear), api.OK},
		{"nor those of light", orderP(5, 5), 0, unsaid(api.ByLight), api.OK},
		{"nor those of heavy", orderP(3, 3), 15, list(cut(0, 2), light, cut(0, 3), dear, unsaid(api.ByHeavy)[0]), api.OK},
		{"nor Cut of broken", twoMetals(), 9, list(cut(0, 0), light, api.Bound{Reason: api.ByBroken, At: 1, Cut: -9}), api.OK},
		{"a price that is too high", orderP(3, 3), 16, list(cut(0, 2), light, dear), api.ErrConflict},
		{"not light", orderP(3, 3), 15, list(cut(0, 3), light, heavy), api.ErrConflict},
		{"not heavy", orderP(3, 3), 15, list(heavy), api.ErrConflict},
		{"not dear", orderP(3, 3), 15, list(dear), api.ErrConflict},
		{"not broken", twoBins(), 15, list(broken(0)), api.ErrConflict},
		{"just the limit is not broken", limited(10, scrap(rng(0, 10), 1, 0, 1)), 1, list(cut(0, 0), broken(0), broken(0)), api.ErrConflict},
		{"nothing breaks no limit", twoMetals(), 9, list(cut(0, 0), broken(0)), api.ErrConflict},
		{"cut at the greatest number", orderP(3, 3), 15, list(cut(0, 4)), api.ErrValue},
		{"cut above it", orderP(3, 3), 15, list(cut(0, math.MaxInt)), api.ErrValue},
		{"cut below 0", orderP(3, 3), 15, list(cut(0, -1)), api.ErrValue},
		{"cut below the least number", orderP(3, 3), 15, list(cut(0, 0), light, cut(0, 0), light, dear), api.ErrValue},
		{"cut where there is one number", limited(0, scrap(rng(0, 0), 1, 1, 0)), 15, list(cut(0, 0)), api.ErrValue},
		{"cut at no bin", orderP(3, 3), 15, list(cut(1, 9)), api.ErrUnknown},
		{"cut at -1", orderP(3, 3), 15, list(cut(-1, 9)), api.ErrUnknown},
		{"no metal", orderP(3, 3), 15, list(broken(0)), api.ErrUnknown},
		{"the metal 2", twoMetals(), 15, list(broken(2)), api.ErrUnknown},
		{"the metal -1", twoMetals(), 15, list(broken(-1)), api.ErrUnknown},
		{"the kind 0", orderP(3, 3), 15, list(api.Bound{}), api.ErrKind},
		{"the kind 6", orderP(3, 3), 15, list(api.Bound{Reason: 6, At: 9}), api.ErrKind},
		{"the kind -1", orderP(3, 3), 15, list(api.Bound{Reason: -1}), api.ErrKind},
		{"far above", orderP(3, 3), 15, list(api.Bound{Reason: math.MaxInt}), api.ErrKind},
		{"nothing", orderP(3, 3), 15, nil, api.ErrForm},
		{"too short", orderP(3, 3), 15, list(cut(0, 2), light), api.ErrForm},
		{"cut alone", orderP(3, 3), 15, list(cut(0, 2)), api.ErrForm},
		{"too long", orderP(3, 3), 0, list(dear, dear), api.ErrForm},
		{"what is left does not matter", orderP(3, 3), 0, list(dear, api.Bound{}), api.ErrForm},
		{"the first error first", orderP(3, 3), 15, list(cut(0, 2), dear, api.Bound{}), api.ErrConflict},
		{"an error before what is not there", orderP(3, 3), 15, list(cut(0, 2), api.Bound{}), api.ErrKind},
		{"6000 bounds", orderP(3, 3), 0, make([]api.Bound, 6000), api.ErrKind},
		{"6000 bounds, one is needed", orderP(3, 3), 0, slices.Repeat(list(dear), 6000), api.ErrForm},
		{"6001 bounds", orderP(3, 3), 0, slices.Repeat(list(dear), 6001), api.ErrMany},
		{"the price -1", orderP(3, 3), -1, make([]api.Bound, 6001), api.ErrValue},
		{"the price 0", orderP(3, 3), 0, list(dear), api.OK},
		{"the price 300000000", orderP(5, 5), 300000000, list(light), api.OK},
		{"the price 300000001", orderP(5, 5), 300000001, make([]api.Bound, 6001), api.ErrValue},
	} {
		if e := melt.Verify(c.o, c.price, c.proof); e != c.want {
			t.Errorf("%s: %d, not %d", c.name, e, c.want)
		}
	}
}

// TestP6_3Broken: of a bin that exceeds the limit the least number counts, of any other one the greatest.
func TestP6_3Broken(t *testing.T) {
	// A grab of the bin 0 exceeds the limit by 3 times 2, one of the bin 1 is 2 times 4 below it, one of the bin 2 has just the limit.
	o := limited(10, scrap(rng(0, 12), 3, 0, 6), scrap(rng(0, 6), 2, 0, 6), scrap(rng(0, 10), 5, 0, 6))
	for bad := 1; bad <= 6; bad++ {
		for good := range 7 {
			want := api.ErrConflict
			if 6*bad > 8*good {
				want = api.OK
			}
			// The numbers of grabs are from bad to 6, and from 0 to good; what is cut off is said to be dear.
			proof := list(cut(0, bad-1), dear, broken(0))
			if good < 6 {
				proof = list(cut(0, bad-1), dear, cut(1, good), broken(0), dear)
			}
			if e := melt.Verify(o, 0, proof); e != want {
				t.Errorf("from %d, to %d: %d, not %d", bad, good, e, want)
			}
		}
	}
}

// TestRules: no argument is changed or kept, and no result shares memory (R2, R4).
func TestRules(t *testing.T) {
	o := withO(func(o *api.Order) {
		o.Limits = append(make([]int, 0, 9), o.Limits...)
		o.Bins = append(make([]api.Bin, 0, 9), o.Bins...)
		for at := range o.Bins {
			o.Bins[at].Grams = append(make([]api.Range, 0, 9), o.Bins[at].Grams...)
		}
	})
	kept := copyOrder(o)
	blend := append(make([]int, 0, 9), 2, 3, 2)
	best, _, _ := melt.Cheapest(o)
	proof, _ := melt.Prove(o, 200)
	if proof = append(make([]api.Bound, 0, 9999), proof...); len(proof) < 3 {
		t.Fatal("a short proof", proof)
	}
	told := slices.Clone(proof)
	text, _ := melt.Reasons(proof)
	melt.Weigh(o, blend)
	melt.Keeps(o, blend)
	melt.Verify(o, 200, proof)
	best[0] = 99
	again, _, _ := melt.Cheapest(o)
	other, _ := melt.Prove(o, 200)
	read, _, _ := melt.Parse(text)
	read[0].At = 99
	reread, _, _ := melt.Parse(text)
	if !slices.Equal(again, []int{2, 2, 2}) || !slices.Equal(other, told) || !slices.Equal(reread, told) {
		t.Error("two results share memory")
	}
	if !sameOrder(o, kept) || !slices.Equal(blend, []int{2, 3, 2}) || !slices.Equal(proof, told) {
		t.Error("an argument was changed")
	}
	if !slices.Equal(o.Limits[:9], append(kept.Limits, make([]int, 7)...)) || !slices.Equal(blend[:9], append([]int{2, 3, 2}, make([]int, 6)...)) || proof[:9999][len(proof)] != (api.Bound{}) {
		t.Error("something was written behind an argument")
	}
	for at, bin := range o.Bins {
		if !slices.Equal(bin.Grams[:9], append(kept.Bins[at].Grams, make([]api.Range, 7)...)) {
			t.Error("something was written behind the grams of", at)
		}
	}
}

// wild returns a random number, often one at a bound or far beyond.
func wild(r *rand.Rand) int {
	numbers := []int{0, 0, 0, 1, 1, 1, 2, 2, 3, -1, 4, 5, 6, 7, 10000, 10001, 240000, 240001, 1000000, 1000001, 10000001, 300000000, 300000001, math.MaxInt, math.MinInt, math.MaxInt32, math.MinInt32}
	return numbers[r.Intn(len(numbers))]
}

// wildList returns up to 7 wild numbers.
func wildList(r *rand.Rand) []int {
	var numbers []int
	for range r.Intn(8) {
		numbers = append(numbers, wild(r))
	}
	return numbers
}

// wildOrder returns an order with some wild numbers.
func wildOrder(r *rand.Rand) api.Order {
	o := anyOrder(r)
	bin := &o.Bins[r.Intn(len(o.Bins))]
	switch r.Intn(12) {
	case 0:
		o.Limits = wildList(r)
	case 1:
		o.Least = wild(r)
	case 2:
		o.Most = wild(r)
	case 3:
		o.Bins = make([]api.Bin, r.Intn(7))
	case 4:
		bin.Grams = append(bin.Grams, rng(wild(r), wild(r)))
	case 5:
		bin.Grams = nil
	case 6:
		bin.Weight = wild(r)
	case 7:
		bin.Cost = wild(r)
	case 8:
		bin.Grabs = wild(r)
	}
	return o
}

// TestP1: no call panics, whatever the arguments are.
func TestP1(t *testing.T) {
	r := rand.New(rand.NewSource(1))
	for range 5000 {
		o := wildOrder(r)
		var proof []api.Bound
		for range r.Intn(9) {
			proof = append(proof, api.Bound{Reason: wild(r), At: wild(r), Cut: wild(r)})
		}
		melt.Check(o)
		melt.Weigh(o, wildList(r))
		melt.Keeps(o, wildList(r))
		melt.Cheapest(o)
		melt.Prove(o, wild(r))
		melt.Verify(o, wild(r), proof)
		melt.Reasons(proof)
		var text strings.Builder
		for range r.Intn(9) {
			text.WriteString([]string{"cut", "light", "heavy", "broken", "dear", " ", " 0", " 1", "\n", "\n", "\xff"}[r.Intn(11)])
		}
		melt.Parse(text.String())
	}
}
