package mix

import "swarf/api"

// whole is the column of flows, behind those of the materials, in which the weights are.
const whole = api.MaxStuffs

// places is how many places there are between flows: outside, one for each fraction, and one for each material in each.
const places = 1 + maxFractions + maxFractions*api.MaxStuffs

// bounds are how many kilograms may flow.
type bounds api.Range

// above returns how many more than kilos may flow.
func (b bounds) above(kilos int) int { return b.Max - kilos }

// below returns how many fewer than kilos may flow.
func (b bounds) below(kilos int) int { return max(0, kilos-b.Min) }

// lack returns how many more than kilos have to flow.
func (b bounds) lack(kilos int) int { return max(0, b.Min-kilos) }

// flow is how many kilograms flow from one place to another one.
type flow struct {
	bounds
	from, to, kilos int
}

// room returns where kilograms can go on from a place by a flow, and how many: along it, or back against what flows.
func (f *flow) room(place int) (next, kilos int) {
	switch place {
	case f.from:
		return f.to, f.above(f.kilos)
	case f.to:
		return f.from, f.below(f.kilos)
	}
	return place, 0
}

// carry lets kilograms go on from a place by a flow.
func (f *flow) carry(place, kilos int) {
	if place == f.from {
		f.kilos += kilos
	} else {
		f.kilos -= kilos
	}
}

// flows has for each fraction what it holds of each material, and what it weighs.
type flows [maxFractions][api.MaxStuffs + 1]flow

// reach returns the least and the greatest that a flow is in any truth, found from one truth.
func reach(truth flows, fraction, column int) api.Range {
	f := &truth[fraction][column]
	more := truth.send(f, f.to, f.from, f.above(f.kilos))
	f.kilos += more
	most := f.kilos
	fewer := truth.send(f, f.from, f.to, f.below(f.kilos))
	f.kilos -= fewer
	return api.Range{Min: f.kilos, Max: most}
}

// send lets up to kilos flow between the ends of a flow by all the others, and returns how many do. Wide ways are taken first, so that their number does not grow with the kilograms.
func (all *flows) send(without *flow, from, to, kilos int) int {
	sent := 0
	for width := kilos; width > 0; width /= 2 {
		for sent < kilos {
			n := all.sendOneWay(without, from, to, kilos-sent, width)
			if n == 0 {
				break
			}
			sent += n
		}
	}
	return sent
}

// sendOneWay lets up to kilos flow on one way that has room for width everywhere, and returns how many do.
func (all *flows) sendOneWay(without *flow, from, to, kilos, width int) int {
	var seen [places]bool
	var search func(place, kilos int) int
	search = func(place, kilos int) int {
		if place == to {
			return kilos
		}
		seen[place] = true
		for fraction := range all {
			for column := range all[fraction] {
				f := &all[fraction][column]
				next, room := f.room(place)
				if f == without || room < width || seen[next] {
					continue
				}
				if n := search(next, min(kilos, room)); n > 0 {
					f.carry(place, n)
					return n
				}
			}
		}
		return 0
	}
	return search(from, kilos)
}
