package melt_test

import (
	"math/rand"
	"slices"

	"swarf/api"
)

// rng returns a range.
func rng(low, high int) api.Range { return api.Range{Min: low, Max: high} }

// Bounds of all reasons.
var (
	light = api.Bound{Reason: api.ByLight}
	heavy = api.Bound{Reason: api.ByHeavy}
	dear  = api.Bound{Reason: api.ByDear}
)

func cut(at, upTo int) api.Bound { return api.Bound{Reason: api.ByCut, At: at, Cut: upTo} }

func broken(metal int) api.Bound { return api.Bound{Reason: api.ByBroken, At: metal} }

// list returns a proof.
func list(proof ...api.Bound) []api.Bound { return proof }

// orderO is O of the chapter's examples.
func orderO() api.Order {
	return api.Order{Limits: []int{400, 100}, Least: 10000, Most: 12000, Bins: []api.Bin{
		{Grams: []api.Range{rng(300, 350), rng(50, 60)}, Weight: 2000, Cost: 50, Grabs: 4},
		{Grams: []api.Range{rng(500, 600), rng(0, 20)}, Weight: 2000, Cost: 30, Grabs: 4},
		{Grams: []api.Range{rng(100, 100), rng(200, 300)}, Weight: 1000, Cost: 20, Grabs: 3},
	}}
}

// withO returns O with a change.
func withO(change func(o *api.Order)) api.Order {
	o := orderO()
	change(&o)
	return o
}

// orderP is P of the chapter's examples, with Least and Most.
func orderP(least, most int) api.Order {
	return api.Order{Least: least, Most: most, Bins: []api.Bin{{Weight: 1, Cost: 5, Grabs: 4}}}
}

// limited returns an order of one metal that takes blends of any weight.
func limited(limit int, bins ...api.Bin) api.Order {
	return api.Order{Limits: []int{limit}, Most: api.MaxMelt, Bins: bins}
}

// scrap returns a bin of one metal.
func scrap(grams api.Range, weight, cost, grabs int) api.Bin {
	return api.Bin{Grams: []api.Range{grams}, Weight: weight, Cost: cost, Grabs: grabs}
}

// greatest is an order with the greatest numbers that there may be, and with these grams in all bins.
func greatest(grams api.Range) api.Order {
	bin := scrap(grams, api.MaxGrab, api.MaxCost, api.MaxGrabs)
	return limited(0, bin, bin, bin, bin)
}

// copyOrder returns a copy that shares no memory.
func copyOrder(o api.Order) api.Order {
	o.Limits, o.Bins = slices.Clone(o.Limits), slices.Clone(o.Bins)
	for at := range o.Bins {
		o.Bins[at].Grams = slices.Clone(o.Bins[at].Grams)
	}
	return o
}

// sameOrder tells whether two orders are equal.
func sameOrder(a, b api.Order) bool {
	return slices.Equal(a.Limits, b.Limits) && a.Least == b.Least && a.Most == b.Most && slices.EqualFunc(a.Bins, b.Bins, func(x, y api.Bin) bool {
		return slices.Equal(x.Grams, y.Grams) && x.Weight == y.Weight && x.Cost == y.Cost && x.Grabs == y.Grabs
	})
}

// between returns a random number from low to high.
func between(r *rand.Rand, low, high int) int { return low + r.Intn(high-low+1) }

// within returns a random range from low to high.
func within(r *rand.Rand, low, high int) api.Range {
	a, b := between(r, low, high), between(r, low, high)
	return rng(min(a, b), max(a, b))
}

// size is how great a random order is at most.
type size struct{ grams, weight, cost, grabs int }

// In small orders many blends weigh or cost the same, or keep a limit just so; the great ones are the greatest that there may be.
var (
	small = size{grams: 6, weight: 3, cost: 3, grabs: 3}
	great = size{grams: api.MaxGrams, weight: api.MaxGrab, cost: api.MaxCost, grabs: api.MaxGrabs}
)

// randomOrder returns a random valid order.
func randomOrder(r *rand.Rand, s size) api.Order {
	var o api.Order
	for range r.Intn(api.MaxMetals + 1) {
		o.Limits = append(o.Limits, between(r, s.grams/4, s.grams))
	}
	all := 0
	for range between(r, 1, api.MaxBins) {
		bin := api.Bin{Weight: between(r, 1, s.weight), Cost: r.Intn(s.cost + 1), Grabs: between(r, min(1, r.Intn(6)), s.grabs)}
		for range o.Limits {
			bin.Grams = append(bin.Grams, within(r, 0, s.grams))
		}
		o.Bins = append(o.Bins, bin)
		all += bin.Weight * bin.Grabs
	}
	fit := within(r, 0, min(all, api.MaxMelt))
	o.Least, o.Most = fit.Min, fit.Max
	if r.Intn(10) == 0 {
		o.Least, o.Most = min(all+1, api.MaxMelt), api.MaxMelt
	}
	return o
}

// anyOrder returns a random valid order, a small or a great one.
func anyOrder(r *rand.Rand) api.Order {
	if r.Intn(3) == 0 {
		return randomOrder(r, great)
	}
	return randomOrder(r, small)
}

// allBlends returns all blends of an order, in lexicographic order.
func allBlends(o api.Order) [][]int {
	blends := [][]int{nil}
	for _, bin := range o.Bins {
		var longer [][]int
		for _, blend := range blends {
			for grabs := 0; grabs <= bin.Grabs; grabs++ {
				longer = append(longer, append(slices.Clone(blend), grabs))
			}
		}
		blends = longer
	}
	return blends
}

// sums returns what a blend weighs and costs, grab by grab.
func sums(o api.Order, blend []int) (kilos, cost int) {
	for at, grabs := range blend {
		for range grabs {
			kilos, cost = kilos+o.Bins[at].Weight, cost+o.Bins[at].Cost
		}
	}
	return kilos, cost
}

// tenths is how many parts of a gram a truth of a test tells.
const tenths = 10

// isKept tells whether a blend keeps all limits, if each grab has, of each metal, as many tenths of a gram a tonne as is chosen from the range of its bin.
func isKept(o api.Order, blend []int, choose func(grams api.Range) int) bool {
	kilos, _ := sums(o, blend)
	for metal, limit := range o.Limits {
		has := 0
		for at, grabs := range blend {
			for range grabs {
				has += o.Bins[at].Weight * choose(o.Bins[at].Grams[metal])
			}
		}
		if has > limit*tenths*kilos {
			return false
		}
	}
	return true
}

// Truths with the least and the greatest of all ranges, and a random one.
func leastOf(grams api.Range) int { return grams.Min * tenths }

func greatestOf(grams api.Range) int { return grams.Max * tenths }

func anyOf(r *rand.Rand) func(grams api.Range) int {
	return func(grams api.Range) int { return between(r, leastOf(grams), greatestOf(grams)) }
}

// isGood tells whether a blend fits, and keeps all limits with the greatest of all ranges.
func isGood(o api.Order, blend []int) bool {
	kilos, _ := sums(o, blend)
	return kilos >= o.Least && kilos <= o.Most && isKept(o, blend, greatestOf)
}

// cheapest returns the first one of the good blends that cost least, by looking at all blends.
func cheapest(o api.Order) (best []int, least int) {
	for _, blend := range allBlends(o) {
		if _, cost := sums(o, blend); isGood(o, blend) && (best == nil || cost < least) {
			best, least = blend, cost
		}
	}
	return best, least
}

// part is the blends of a box, and the box: from low to high grabs of each bin.
type part struct{ low, high []int }

// whole returns the whole box of an order.
func whole(o api.Order) part {
	p := part{low: make([]int, len(o.Bins))}
	for _, bin := range o.Bins {
		p.high = append(p.high, bin.Grabs)
	}
	return p
}

// halves returns both parts of a box that is cut.
func (p part) halves(at, upTo int) (lower, upper part) {
	lower = part{slices.Clone(p.low), slices.Clone(p.high)}
	upper = part{slices.Clone(p.low), slices.Clone(p.high)}
	lower.high[at], upper.low[at] = upTo, upTo+1
	return lower, upper
}

// isRight tells whether a bound that is not a cut is right for a box, as the chapter says.
func (p part) isRight(o api.Order, price int, bound api.Bound) bool {
	lowKilos, lowCost := sums(o, p.low)
	highKilos, _ := sums(o, p.high)
	switch bound.Reason {
	case api.ByLight:
		return highKilos < o.Least
	case api.ByHeavy:
		return lowKilos > o.Most
	case api.ByDear:
		return lowCost >= price
	}
	sum := 0
	for at, bin := range o.Bins {
		over, count := bin.Grams[bound.At].Max-o.Limits[bound.At], p.high[at]
		if over >= 0 {
			count = p.low[at]
		}
		sum += count * bin.Weight * over
	}
	return sum > 0
}

// reasons returns all bounds but cuts, in the order in which the plain proof asks for them.
func reasons(o api.Order) []api.Bound {
	all := list(light, heavy)
	for metal := range o.Limits {
		all = append(all, broken(metal))
	}
	return append(all, dear)
}

// plain returns the plain proof of a box, if it has one.
func (p part) plain(o api.Order, price int) (proof []api.Bound, ok bool) {
	for _, bound := range reasons(o) {
		if p.isRight(o, price, bound) {
			return list(bound), true
		}
	}
	for at := range p.low {
		if p.low[at] < p.high[at] {
			upTo := (p.low[at] + p.high[at]) / 2
			lower, upper := p.halves(at, upTo)
			before, ok1 := lower.plain(o, price)
			after, ok2 := upper.plain(o, price)
			return slices.Concat(list(cut(at, upTo)), before, after), ok1 && ok2
		}
	}
	return nil, false
}

// verify returns the first error of a proof, with a stack of the boxes that are left.
func verify(o api.Order, price int, proof []api.Bound) api.Errno {
	left := []part{whole(o)}
	for _, bound := range proof {
		if len(left) == 0 {
			return api.ErrForm
		}
		p := left[len(left)-1]
		left = left[:len(left)-1]
		switch {
		case bound.Reason < api.ByCut || bound.Reason > api.ByDear:
			return api.ErrKind
		case bound.Reason == api.ByCut && (bound.At < 0 || bound.At >= len(o.Bins)):
			return api.ErrUnknown
		case bound.Reason == api.ByBroken && (bound.At < 0 || bound.At >= len(o.Limits)):
			return api.ErrUnknown
		case bound.Reason == api.ByCut && (bound.Cut < p.low[bound.At] || bound.Cut >= p.high[bound.At]):
			return api.ErrValue
		case bound.Reason == api.ByCut:
			lower, upper := p.halves(bound.At, bound.Cut)
			left = append(left, upper, lower)
		case !p.isRight(o, price, bound):
			return api.ErrConflict
		}
	}
	if len(left) > 0 {
		return api.ErrForm
	}
	return api.OK
}

// anyProof returns a random proof of a box: it is cut here and there, and as far as there are reasons that are right, they are.
func anyProof(r *rand.Rand, o api.Order, price int, p part) []api.Bound {
	var right []api.Bound
	for _, bound := range reasons(o) {
		if p.isRight(o, price, bound) {
			right = append(right, bound)
		}
	}
	var open []int
	for at := range p.low {
		if p.low[at] < p.high[at] {
			open = append(open, at)
		}
	}
	if len(open) > 0 && (len(right) == 0 || r.Intn(4) == 0) {
		at := open[r.Intn(len(open))]
		upTo := between(r, p.low[at], p.high[at]-1)
		lower, upper := p.halves(at, upTo)
		return slices.Concat(list(cut(at, upTo)), anyProof(r, o, price, lower), anyProof(r, o, price, upper))
	}
	if len(right) == 0 {
		right = reasons(o)
	}
	return list(right[r.Intn(len(right))])
}

// spoilt returns a proof with a bound changed, left out or put in.
func spoilt(r *rand.Rand, proof []api.Bound) []api.Bound {
	proof = slices.Clone(proof)
	at := r.Intn(len(proof))
	bound := api.Bound{Reason: between(r, 0, 6), At: between(r, -1, 4), Cut: between(r, -1, 7)}
	switch r.Intn(4) {
	case 0:
		return slices.Delete(proof, at, at+1)
	case 1:
		return slices.Insert(proof, at, bound)
	case 2:
		proof[at].Cut = bound.Cut
	default:
		proof[at] = bound
	}
	return proof
}
