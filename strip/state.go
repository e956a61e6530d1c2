package strip

import (
	"iter"
	"math/bits"

	"swarf/api"
)

// state is a set of parts, as a rule of those that are out: each one is the bit of its number.
type state uint16

// only returns the set of one part.
func only(part int) state { return 1 << part }

// setOf returns the set of these parts.
func setOf(parts []int) state {
	var s state
	for _, part := range parts {
		s |= only(part)
	}
	return s
}

// has tells whether a part is in a set.
func (s state) has(part int) bool { return s.meets(only(part)) }

// hasAll tells whether all parts of another set are in a set.
func (s state) hasAll(parts state) bool { return s&parts == parts }

// meets tells whether two sets have a part in common.
func (s state) meets(parts state) bool { return s&parts != 0 }

// members returns the parts of a set, ascending.
func (s state) members() []int {
	var list []int
	for part := range bits.Len16(uint16(s)) {
		if s.has(part) {
			list = append(list, part)
		}
	}
	return list
}

// mayComeOut tells whether all parts are out that have to be before a part.
func (s state) mayComeOut(part api.Part) bool { return s.hasAll(setOf(part.Before)) }

// isOf tells whether a set of parts is a state of a car.
func (s state) isOf(c api.Car) bool {
	for _, part := range s.members() {
		if !s.mayComeOut(c.Parts[part]) {
			return false
		}
	}
	return true
}

// wrongLooks returns how many looks say what is not so in a state.
func (s state) wrongLooks(looks []api.Look) int {
	count := 0
	for _, look := range looks {
		if look.Out != s.has(look.Part) {
			count++
		}
	}
	return count
}

// states hands out all states of a car, each one after all those in which less is out.
func states(c api.Car) iter.Seq[state] {
	return func(yield func(state) bool) {
		for s := range only(len(c.Parts)) {
			if s.isOf(c) && !yield(s) {
				return
			}
		}
	}
}

// truthsOf returns the states of a car in which no more looks are wrong than may be.
func truthsOf(c api.Car) ([]state, api.Errno) {
	if e := Check(c); e != api.OK {
		return nil, e
	}
	var truths []state
	for s := range states(c) {
		if s.wrongLooks(c.Looks) <= c.Wrong {
			truths = append(truths, s)
		}
	}
	if len(truths) == 0 {
		return nil, api.ErrConflict
	}
	return truths, api.OK
}

// inAll returns the parts that are out in all of several states.
func inAll(list []state) state {
	common := list[0]
	for _, s := range list {
		common &= s
	}
	return common
}

// badParts returns the bad parts of a car.
func badParts(c api.Car) state {
	var bad state
	for i, part := range c.Parts {
		if part.Bad {
			bad |= only(i)
		}
	}
	return bad
}

// verdict tells whether in all states of a list, in none, or in some isSo is true of what.
func verdict[T any](list []state, isSo func(state, T) bool, what T) int {
	count := 0
	for _, s := range list {
		if isSo(s, what) {
			count++
		}
	}
	switch count {
	case len(list):
		return api.Always
	case 0:
		return api.Nowhere
	}
	return api.Unsure
}
