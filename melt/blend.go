package melt

import "swarf/api"

// blend is how many grabs of each bin there are; of a bin that is not there, none.
type blend [api.MaxBins]int

// blendOf returns the blend of a valid list.
func blendOf(grabs []int) blend {
	var b blend
	copy(b[:], grabs)
	return b
}

// weigh returns what a blend weighs, and what it costs.
func weigh(o api.Order, b blend) (kilos, cost int) {
	for at, bin := range o.Bins {
		kilos += b[at] * bin.Weight
		cost += b[at] * bin.Cost
	}
	return kilos, cost
}

// fits tells whether a blend weighs neither too little nor too much.
func fits(o api.Order, b blend) bool {
	kilos, _ := weigh(o, b)
	return kilos >= o.Least && kilos <= o.Most
}

// excess returns by how much a blend has, at least and at most, more of a metal than it may; below 0 it keeps the limit.
func excess(o api.Order, b blend, metal int) api.Range {
	var sum api.Range
	for at, bin := range o.Bins {
		kilos := b[at] * bin.Weight
		sum.Min += kilos * (bin.Grams[metal].Min - o.Limits[metal])
		sum.Max += kilos * (bin.Grams[metal].Max - o.Limits[metal])
	}
	return sum
}

// keeps returns the verdict whether a blend keeps all limits. What one grab has of a metal says nothing of another grab or metal, so there is a truth with the least of all ranges, and one with the greatest.
func keeps(o api.Order, b blend) int {
	verdict := api.Always
	for metal := range o.Limits {
		over := excess(o, b, metal)
		if over.Min > 0 {
			return api.Nowhere
		}
		if over.Max > 0 {
			verdict = api.Unsure
		}
	}
	return verdict
}

// isGood tells whether a blend fits, and keeps all limits in every truth.
func isGood(o api.Order, b blend) bool {
	return fits(o, b) && keeps(o, b) == api.Always
}
