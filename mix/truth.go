package mix

import (
	"swarf/api"
	"swarf/span"
)

// A truth of a load is a flow in which nothing gets lost. What a fraction weighs flows to its place from that of the
// fraction of which it was made, or from outside. From a fraction that was not split each material flows on by itself,
// back through the places that it has in the fractions that were split, until it is outside again. So each number of a
// truth is what flows in one place, and has its bounds there. All bounds are whole numbers, and so the greatest and the
// least flows are found in whole kilograms, by sending more of them around as long as there is a way.

// none is the number of no fraction: of none the fraction 0 was made.
const none = -1

// fractions hands out the numbers of all fractions of a load, in order. All of them fit into the channel, so none has to wait until it is taken.
func fractions(l api.Load) <-chan int {
	count := countAfter(len(l.Splits))
	list := make(chan int, count)
	for fraction := range count {
		list <- fraction
	}
	close(list)
	return list
}

// tree says of which fraction each one was made, and which ones were split.
type tree struct {
	origin   [maxFractions]int
	wasSplit [maxFractions]bool
}

// treeOf returns the tree of the fractions of a load.
func treeOf(l api.Load) tree {
	var t tree
	t.origin[0] = none
	for s, split := range l.Splits {
		t.origin[2*s+1], t.origin[2*s+2] = split.Of, split.Of
		t.wasSplit[split.Of] = true
	}
	return t
}

// place returns where the weight of a fraction flows to; of none it is outside.
func (t tree) place(fraction int) int { return 1 + fraction }

// stuffPlace returns where a material of a fraction flows from.
func (t tree) stuffPlace(fraction, stuff int) int {
	if fraction == none || !t.wasSplit[fraction] {
		return t.place(fraction)
	}
	return 1 + maxFractions + fraction*api.MaxStuffs + stuff
}

// joined returns what several amounts within ranges may be together.
func joined(ranges ...api.Range) api.Range {
	var sum api.Range
	for _, r := range ranges {
		sum = span.Plus(sum, r)
	}
	return sum
}

// holdBounds returns how much a fraction may hold of a material by what came in, and the errors of its split.
func holdBounds(l api.Load, fraction, stuff int) api.Range {
	came := l.Stuffs[stuff]
	if fraction == 0 {
		return came
	}
	split, isRest := l.Splits[(fraction-1)/2], fraction%2 == 0
	if split.Pulls[stuff] == isRest {
		return api.Range{Max: split.Wrong[stuff]}
	}
	return api.Range{Max: came.Max}
}

// weightBounds returns what a fraction that may hold so much of each material may weigh.
func weightBounds(l api.Load, fraction int, holds []api.Range) api.Range {
	for _, weighed := range l.Weighed {
		if weighed.Fraction == fraction {
			return weighed.Kilos
		}
	}
	return joined(holds...)
}

// flowsOf returns the flows of a load with their bounds; nothing flows yet.
func flowsOf(l api.Load) flows {
	var all flows
	t := treeOf(l)
	for fraction := range fractions(l) {
		origin := t.origin[fraction]
		var holds []api.Range
		for stuff := range l.Stuffs {
			hold := holdBounds(l, fraction, stuff)
			holds = append(holds, hold)
			all[fraction][stuff] = flow{bounds: bounds(hold), from: t.stuffPlace(fraction, stuff), to: t.stuffPlace(origin, stuff)}
		}
		weight := weightBounds(l, fraction, holds)
		all[fraction][whole] = flow{bounds: bounds(weight), from: t.place(origin), to: t.place(fraction)}
	}
	return all
}

// truthOf returns the flows of one truth of a load. They come up to their least kilograms one by one, and meanwhile no other one leaves its bounds, or falls farther below them.
func truthOf(l api.Load) (flows, api.Errno) {
	if e := Check(l); e != api.OK {
		return flows{}, e
	}
	all := flowsOf(l)
	for fraction := range fractions(l) {
		for column := range all[fraction] {
			f := &all[fraction][column]
			lack := f.lack(f.kilos)
			sent := all.send(f, f.to, f.from, lack)
			if sent < lack {
				return flows{}, api.ErrConflict
			}
			f.kilos += sent
		}
	}
	return all, api.OK
}
