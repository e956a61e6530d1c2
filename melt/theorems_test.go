package melt_test

import (
	"math/rand"
	"slices"
	"testing"

	"swarf/api"
	"swarf/melt"
	"swarf/mix"
)

// anyBlend returns a random blend of an order.
func anyBlend(r *rand.Rand, o api.Order) []int {
	var blend []int
	for _, bin := range o.Bins {
		blend = append(blend, r.Intn(bin.Grabs+1))
	}
	return blend
}

// TestP6_5True: whatever is in the grabs, a blend keeps its limits as Keeps says.
func TestP6_5True(t *testing.T) {
	r := rand.New(rand.NewSource(5))
	counts := make(map[int]int)
	for range 4000 {
		o := anyOrder(r)
		blend := anyBlend(r, o)
		keeps, e := melt.Keeps(o, blend)
		if e != api.OK {
			t.Fatalf("%v, %v: %d", o, blend, e)
		}
		counts[keeps]++
		for range 5 {
			is := isKept(o, blend, anyOf(r))
			if keeps != api.Unsure && is != (keeps == api.Always) {
				t.Fatalf("%v, %v: keeps its limits: %v, but %d", o, blend, is, keeps)
			}
		}
	}
	if counts[api.Always] < 500 || counts[api.Nowhere] < 500 || counts[api.Unsure] < 500 {
		t.Error("too few blends were looked at", counts)
	}
}

// TestP6_6Ends: a blend that keeps its limits Unsure does with the least of all ranges, and does not with the greatest; any other verdict is so with both.
func TestP6_6Ends(t *testing.T) {
	r := rand.New(rand.NewSource(6))
	for range 1000 {
		o := anyOrder(r)
		for _, blend := range allBlends(randomPart(r, o)) {
			best, worst := isKept(o, blend, leastOf), isKept(o, blend, greatestOf)
			want := api.Unsure
			if best == worst {
				want = map[bool]int{true: api.Always, false: api.Nowhere}[best]
			}
			if keeps, e := melt.Keeps(o, blend); keeps != want || e != api.OK {
				t.Fatalf("%v, %v: %d %d, not %d", o, blend, keeps, e, want)
			}
		}
	}
}

// randomPart returns an order with fewer grabs of each bin.
func randomPart(r *rand.Rand, o api.Order) api.Order {
	o = copyOrder(o)
	for at := range o.Bins {
		o.Bins[at].Grabs = r.Intn(min(o.Bins[at].Grabs, 3) + 1)
	}
	return o
}

// TestP6_7Cheapest: all blends are looked at; the blend of Cheapest is good, no good blend costs less, nor as much and comes before.
func TestP6_7Cheapest(t *testing.T) {
	r := rand.New(rand.NewSource(7))
	none, some, nothing := 0, 0, 0
	for range 3000 {
		o := anyOrder(r)
		want, least := cheapest(o)
		blend, cost, e := melt.Cheapest(o)
		if want == nil {
			none++
			if e != api.ErrLimit || blend != nil || cost != 0 {
				t.Fatalf("%v: %v %d %d, but no blend is good", o, blend, cost, e)
			}
			continue
		}
		if e != api.OK || !slices.Equal(blend, want) || cost != least {
			t.Fatalf("%v: %v %d %d, not %v %d", o, blend, cost, e, want, least)
		}
		if slices.Max(blend) == 0 {
			nothing++
		} else {
			some++
		}
	}
	if none < 300 || some < 300 || nothing < 50 {
		t.Error("too few orders were looked at", none, some, nothing)
	}
}

// maxPrice is the greatest price for which there may be a proof.
const maxPrice = 30 * api.MaxCost

// TestP6_8Proved: there is a plain proof, which is right, for each price up to what the cheapest good blend costs, for every price if none is good, and for no higher price.
func TestP6_8Proved(t *testing.T) {
	r := rand.New(rand.NewSource(8))
	proved, refuted, longest := 0, 0, 0
	for range 2000 {
		o := anyOrder(r)
		best, cost := cheapest(o)
		top := maxPrice
		if best != nil {
			top = cost
		}
		for _, price := range []int{0, 1, r.Intn(top + 1), top - 1, top, top + 1, r.Intn(maxPrice + 1), maxPrice} {
			proof, e := melt.Prove(o, price)
			switch {
			case price < 0 || price > maxPrice:
				continue
			case price > top:
				refuted++
				if e != api.ErrLimit || proof != nil {
					t.Fatalf("%v for %d: %v %d, but %v costs %d", o, price, proof, e, best, cost)
				}
			default:
				proved++
				longest = max(longest, len(proof))
				want, ok := whole(o).plain(o, price)
				if e != api.OK || !ok || !slices.Equal(proof, want) {
					t.Fatalf("%v for %d: %v %d, not %v", o, price, proof, e, want)
				}
				if e := melt.Verify(o, price, proof); e != api.OK {
					t.Fatalf("%v for %d: %v is not right: %d", o, price, proof, e)
				}
			}
		}
	}
	if proved < 3000 || refuted < 1000 || longest < 200 {
		t.Error("too few proofs were looked at", proved, refuted, longest)
	}
}

// TestP6_8Long: proofs of orders that no blend fits, as it would take half a grab: nearly all blends are told apart.
func TestP6_8Long(t *testing.T) {
	for bins := 1; bins <= api.MaxBins; bins++ {
		o := api.Order{Least: 6*bins + 1, Most: 6*bins + 1, Bins: slices.Repeat([]api.Bin{{Weight: 2, Grabs: api.MaxGrabs}}, bins)}
		proof, e := melt.Prove(o, maxPrice)
		want, ok := whole(o).plain(o, maxPrice)
		if e != api.OK || !ok || !slices.Equal(proof, want) {
			t.Fatalf("%d bins: %d bounds, %d, not %d", bins, len(proof), e, len(want))
		}
		text, e1 := melt.Reasons(proof)
		read, _, e2 := melt.Parse(text)
		if e3 := melt.Verify(o, maxPrice, read); e1 != api.OK || e2 != api.OK || e3 != api.OK {
			t.Fatalf("%d bins, %d bounds: %d %d %d", bins, len(proof), e1, e2, e3)
		}
		if bins == api.MaxBins && len(proof) < 1000 {
			t.Error("a short proof", len(proof))
		}
	}
}

// TestP6_9Sound: Verify says of all proofs what the chapter says, whatever they are; if one is right, no good blend costs less than the price.
func TestP6_9Sound(t *testing.T) {
	r := rand.New(rand.NewSource(9))
	counts := make(map[api.Errno]int)
	for range 10000 {
		o := randomOrder(r, small)
		best, cost := cheapest(o)
		price := max(0, cost+between(r, -3, 2))
		proof := anyProof(r, o, price, whole(o))
		for range r.Intn(3) {
			if len(proof) > 0 {
				proof = spoilt(r, proof)
			}
		}
		want := verify(o, price, proof)
		e := melt.Verify(o, price, proof)
		if e != want {
			t.Fatalf("%v for %d: %v: %d, not %d", o, price, proof, e, want)
		}
		if e == api.OK && best != nil && cost < price {
			t.Fatalf("%v for %d: %v is right, but %v costs %d", o, price, proof, best, cost)
		}
		counts[e]++
	}
	for _, e := range []api.Errno{api.OK, api.ErrKind, api.ErrUnknown, api.ErrValue, api.ErrConflict, api.ErrForm} {
		if counts[e] < 200 {
			t.Error("too few proofs were looked at", counts)
		}
	}
}

// easier returns an order with higher limits, purer scrap, more grabs and lower costs.
func easier(r *rand.Rand, o api.Order) api.Order {
	o = copyOrder(o)
	for metal := range o.Limits {
		o.Limits[metal] = between(r, o.Limits[metal], min(o.Limits[metal]*3/2+1, api.MaxGrams))
	}
	for at := range o.Bins {
		bin := &o.Bins[at]
		bin.Cost = between(r, bin.Cost/2, bin.Cost)
		bin.Grabs = between(r, bin.Grabs, api.MaxGrabs)
		for metal, grams := range bin.Grams {
			purer := between(r, grams.Max/2, grams.Max)
			bin.Grams[metal] = rng(between(r, 0, min(grams.Min, purer)), purer)
		}
	}
	return o
}

// TestP6_10Easier: with higher limits, purer scrap, more grabs and lower costs the cheapest blend costs no more.
func TestP6_10Easier(t *testing.T) {
	r := rand.New(rand.NewSource(10))
	cheaper, newly := 0, 0
	for range 2000 {
		o := anyOrder(r)
		better := easier(r, o)
		_, cost, e := melt.Cheapest(o)
		_, cost2, e2 := melt.Cheapest(better)
		if e == api.OK && (e2 != api.OK || cost2 > cost) {
			t.Fatalf("%v: %d %d, but %v: %d %d", o, cost, e, better, cost2, e2)
		}
		if e == api.OK && cost2 < cost {
			cheaper++
		}
		if e != api.OK && e2 == api.OK {
			newly++
		}
	}
	if cheaper < 200 || newly < 200 {
		t.Error("too few orders were looked at", cheaper, newly)
	}
}

// TestP6_11Scaled: if all weights, and Least and Most, are multiplied by the same number, the same blend is the cheapest one.
func TestP6_11Scaled(t *testing.T) {
	r := rand.New(rand.NewSource(11))
	found := 0
	for range 2000 {
		o := randomOrder(r, small)
		by := between(r, 2, api.MaxGrab/small.weight)
		scaled := copyOrder(o)
		for at := range scaled.Bins {
			scaled.Bins[at].Weight *= by
		}
		scaled.Least, scaled.Most = scaled.Least*by, min(scaled.Most*by, api.MaxMelt)
		if melt.Check(scaled) != api.OK || scaled.Most < o.Most*by && o.Most*by < api.MaxMelt {
			continue
		}
		blend, cost, e := melt.Cheapest(o)
		blend2, cost2, e2 := melt.Cheapest(scaled)
		if e2 != e || cost2 != cost || !slices.Equal(blend, blend2) {
			t.Fatalf("%v: %v %d %d, times %d: %v %d %d", o, blend, cost, e, by, blend2, cost2, e2)
		}
		if e == api.OK && cost > 0 {
			found++
		}
	}
	if found < 200 {
		t.Error("too few orders were looked at", found)
	}
}

// sorted is a load, the kilograms of each material that truly are in its fractions, and the fractions that were not split.
type sorted struct {
	load  api.Load
	kilos [][]int
	left  []int
}

// around returns a random range of kilograms that has n in it.
func around(r *rand.Rand, n, wide int) api.Range {
	return rng(max(0, n-r.Intn(wide+1)), n+r.Intn(wide+1))
}

// total returns the kilograms of all materials together.
func total(kilos []int) int {
	sum := 0
	for _, n := range kilos {
		sum += n
	}
	return sum
}

// sort returns a random load that was sorted, and weighed.
func sort(r *rand.Rand) sorted {
	s := sorted{kilos: [][]int{nil}, left: []int{0}}
	for range between(r, 1, api.MaxStuffs) {
		n := r.Intn(16)
		s.kilos[0] = append(s.kilos[0], n)
		s.load.Stuffs = append(s.load.Stuffs, around(r, n, 3))
	}
	for step := range r.Intn(api.MaxSplits + 1) {
		i := r.Intn(len(s.left))
		split := api.Split{Of: s.left[i]}
		s.left = append(slices.Delete(s.left, i, i+1), 2*step+1, 2*step+2)
		both := [2][]int{}
		for _, n := range s.kilos[split.Of] {
			to, wrong := r.Intn(2), r.Intn(min(n, 2)+1)
			split.Pulls = append(split.Pulls, to == 0)
			split.Wrong = append(split.Wrong, wrong+r.Intn(2))
			both[to], both[1-to] = append(both[to], n-wrong), append(both[1-to], wrong)
		}
		s.load.Splits = append(s.load.Splits, split)
		s.kilos = append(s.kilos, both[0], both[1])
	}
	for fraction, kilos := range s.kilos {
		if r.Intn(4) > 0 {
			s.load.Weighed = append(s.load.Weighed, api.Weighed{Fraction: fraction, Kilos: around(r, total(kilos), 1)})
		}
	}
	return s
}

// grams returns how many grams of a material a tonne of a fraction may have.
func grams(holds, weight api.Range) api.Range {
	least := 1000000 * holds.Min / weight.Max
	most := (1000000*holds.Max + weight.Min - 1) / weight.Min
	return rng(least, min(most, 1000000))
}

// binsOf returns bins of fractions of a load, and which fractions these are: all materials but the last one are metals.
func binsOf(t *testing.T, r *rand.Rand, s sorted) (bins []api.Bin, fractions []int) {
	t.Helper()
	holds, e := mix.Holds(s.load)
	weights, e2 := mix.Weights(s.load)
	if e != api.OK || e2 != api.OK {
		t.Fatalf("%v is possible: %d %d", s.load, e, e2)
	}
	for _, fraction := range s.left {
		weight := weights[fraction]
		if weight.Min < 1 || len(bins) == api.MaxBins {
			continue
		}
		bin := api.Bin{Weight: between(r, 1, 4), Cost: r.Intn(9)}
		bin.Grabs = min(weight.Min/bin.Weight, api.MaxGrabs)
		for _, hold := range holds[fraction][:min(len(holds[fraction])-1, api.MaxMetals)] {
			bin.Grams = append(bin.Grams, grams(hold, weight))
		}
		bins, fractions = append(bins, bin), append(fractions, fraction)
	}
	return bins, fractions
}

// TestT6Blended: bins are fractions of loads that were sorted and weighed; the cheapest blend keeps all limits with what truly is in them.
func TestT6Blended(t *testing.T) {
	r := rand.New(rand.NewSource(6))
	blended, none := 0, 0
	for range 3000 {
		s := sort(r)
		bins, fractions := binsOf(t, r, s)
		if bins == nil {
			continue
		}
		o := api.Order{Least: between(r, 1, 12), Bins: bins}
		o.Most = o.Least + r.Intn(9)
		for range bins[0].Grams {
			o.Limits = append(o.Limits, between(r, 100000, 700000))
		}
		blend, _, e := melt.Cheapest(o)
		if e == api.ErrLimit {
			none++
			continue
		}
		if kilos, _ := sums(o, blend); e != api.OK || kilos < o.Least || kilos > o.Most {
			t.Fatalf("%v: %v %d", o, blend, e)
		}
		blended++
		for metal := range o.Limits {
			if !isBelow(s, o, blend, fractions, metal) {
				t.Fatalf("%v with %v: %v breaks the limit of %d", s, o, blend, metal)
			}
		}
	}
	if blended < 500 || none < 200 {
		t.Error("too few orders were looked at", blended, none)
	}
}

// isBelow tells whether a blend of fractions keeps the limit of a metal, if each fraction is the same all over.
func isBelow(s sorted, o api.Order, blend, fractions []int, metal int) bool {
	// All shares are counted in parts of the product of all weights, so that they are whole numbers.
	product := 1
	for _, fraction := range fractions {
		product *= total(s.kilos[fraction])
	}
	has, kilos := 0, 0
	for at, fraction := range fractions {
		weight := blend[at] * o.Bins[at].Weight
		kilos += weight
		has += weight * s.kilos[fraction][metal] * (product / total(s.kilos[fraction]))
	}
	return 1000000*has <= o.Limits[metal]*kilos*product
}
