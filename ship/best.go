package ship

import (
	"iter"
	"slices"

	"swarf/api"
)

// stowages hands out all lists with a hold, or behind, for each lot, in lexicographic order.
func stowages(v api.Voyage) iter.Seq[[]int] {
	return func(yield func([]int) bool) {
		next, isThere := slices.Repeat([]int{behind}, len(v.Lots)), true
		for isThere && yield(next) {
			next, isThere = after(next, len(v.Holds)-1)
		}
	}
}

// after returns the list that comes next, if there is one with numbers up to that of the last hold.
func after(stowage []int, last int) ([]int, bool) {
	next := slices.Clone(stowage)
	for lot := len(next) - 1; lot >= 0; lot-- {
		if next[lot] < last {
			next[lot]++
			return next, true
		}
		next[lot] = behind
	}
	return nil, false
}

// plan is a stowage and the worth of its lots in holds.
type plan struct {
	stowage []int
	worth   int
}

// planOf returns the plan of a stowage.
func planOf(v api.Voyage, stowage []int) plan {
	worth := 0
	for lot := range aboard(v, stowage) {
		worth += lot.Worth
	}
	return plan{stowage: stowage, worth: worth}
}

// value returns the worth of a plan.
func (p plan) value() int { return p.worth }

// better returns the one of two things that has the greater value, the first one if they have the same.
func better[T any](first, second T, value func(T) int) T {
	if value(second) > value(first) {
		return second
	}
	return first
}

// trial is whether a barge passes when its ends lie so deep.
type trial struct {
	deep   ends
	passes bool
}

// trialOf sends a barge on its way.
func trialOf(b barge) trial {
	return trial{deep: b.deep, passes: len(b.sail()) == len(b.Sills)}
}

// with returns the trial of the barge with another load. It need not sail again if its ends lie as deep as before.
func (t trial) with(b barge) trial {
	if b.deep == t.deep {
		return t
	}
	return trialOf(b)
}
