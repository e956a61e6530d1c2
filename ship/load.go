package ship

import (
	"iter"

	"swarf/api"
	"swarf/span"
)

// behind stands in a stowage for the hold of a lot that stays behind.
const behind = -1

// parts is how many thousandths a millimetre has.
const parts = 1000

// luck tells which number of a range is the true one. With good luck all that hinders a barge (tonnes, minutes) is as little, and all that helps it (water) as much as it may be; with bad luck it is the other way round. No truth lets a barge lie less deep, or pass a sill sooner, than good luck does, and none lets it lie deeper, or pass later, than bad luck.
type luck bool

const (
	good luck = true
	bad  luck = false
)

// hinders returns the true number of a range of what hinders a barge.
func (l luck) hinders(r api.Range) int {
	if l == good {
		return r.Min
	}
	return r.Max
}

// helps returns the true number of a range of what helps a barge.
func (l luck) helps(r api.Range) int {
	if l == good {
		return r.Max
	}
	return r.Min
}

// The ends of a barge.
const (
	atBow = iota
	atStern
	bothEnds
)

// ends is how deep the ends of a barge lie, in thousandths of a millimetre.
type ends [bothEnds]int

// aboard hands out the lots that a stowage has in holds, each with the number of its hold.
func aboard(v api.Voyage, stowage []int) iter.Seq2[api.Cargo, int] {
	return func(yield func(api.Cargo, int) bool) {
		for lot, hold := range stowage {
			if hold != behind && !yield(v.Lots[lot], hold) {
				return
			}
		}
	}
}

// isRoomFor tells whether the lots of a stowage, as heavy as they may be, have room in their holds.
func isRoomFor(v api.Voyage, stowage []int) bool {
	var tonnes [api.MaxHolds]int
	for lot, hold := range aboard(v, stowage) {
		tonnes[hold] += lot.Tonnes.Max
		if tonnes[hold] > v.Holds[hold].Room {
			return false
		}
	}
	return true
}

// depths returns how deep the ends lie with some luck.
func depths(v api.Voyage, stowage []int, l luck) ends {
	deep := ends{parts * v.Light, parts * v.Light}
	for lot, hold := range aboard(v, stowage) {
		tonnes := l.hinders(lot.Tonnes)
		deep[atBow] += tonnes * v.Holds[hold].Bow
		deep[atStern] += tonnes * v.Holds[hold].Stern
	}
	return deep
}

// tilt returns by how much the bow may lie deeper than the stern.
func tilt(v api.Voyage, stowage []int) api.Range {
	var sum api.Range
	for lot, at := range aboard(v, stowage) {
		hold := v.Holds[at]
		sum = span.Plus(sum, times(lot.Tonnes, hold.Bow-hold.Stern))
	}
	return sum
}

// times returns the range of the products of the numbers of a range with n.
func times(r api.Range, n int) api.Range {
	if n < 0 {
		return api.Range{Min: r.Max * n, Max: r.Min * n}
	}
	return api.Range{Min: r.Min * n, Max: r.Max * n}
}

// isLevel tells whether the barge is level enough, by however much within a range the bow lies deeper than the stern.
func isLevel(v api.Voyage, apart api.Range) bool {
	return greatest(apart.Max, -apart.Min) <= parts*v.Trim
}

// greatest returns the greatest one of some numbers.
func greatest(first int, others ...int) int {
	for _, n := range others {
		first = max(first, n)
	}
	return first
}
