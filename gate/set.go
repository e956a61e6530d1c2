package gate

import (
	"cmp"
	"math/bits"
	"slices"
)

// set is a set of lorries, or of piles: each one is the bit of its number.
type set uint8

// only returns the set that has one number.
func only(n int) set { return 1 << n }

// firstOnes returns the set of the numbers below n.
func firstOnes(n int) set { return only(n) - 1 }

// isEmpty tells whether a set has no number.
func (s set) isEmpty() bool { return s == 0 }

// size returns how many numbers a set has.
func (s set) size() int { return bits.OnesCount8(uint8(s)) }

// meets tells whether two sets have a number in common.
func (s set) meets(other set) bool { return s&other != 0 }

// members returns the numbers of a set, ascending.
func (s set) members() []int {
	var list []int
	for n := range bits.Len8(uint8(s)) {
		if s.meets(only(n)) {
			list = append(list, n)
		}
	}
	return list
}

// isBefore tells whether a set has fewer numbers than another one, or as many, and comes first in lexicographic order.
func (s set) isBefore(other set) bool {
	return cmp.Or(cmp.Compare(s.size(), other.size()), slices.Compare(s.members(), other.members())) < 0
}
