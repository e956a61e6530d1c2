package pile

import (
	"iter"
	"slices"

	"swarf/api"
)

// heap is what lies on a spot: at which places the sums are of all that was tipped on it, and of all that was taken, and the sort of the last tip. On a spot without tips it is the zero value; its sort does not matter, as nothing of it breaks a rule.
type heap struct{ tipped, taken, sort int }

// atMost says that no more than mass kilograms lie there.
func (h heap) atMost(mass int) bound { return bound{sum: h.tipped, other: h.taken, most: mass} }

// atLeast says that no less than mass kilograms lie there.
func (h heap) atLeast(mass int) bound { return bound{sum: h.taken, other: h.tipped, most: -mass} }

// after returns a heap after the act with that number.
func (h heap) after(number int, act api.Act) heap {
	if act.Take {
		h.taken = place(number)
	} else {
		h.tipped, h.sort = place(number), act.Sort
	}
	return h
}

// actsOn hands out the acts on a spot, with their numbers.
func actsOn(acts []api.Act, spot int) iter.Seq2[int, api.Act] {
	return func(yield func(int, api.Act) bool) {
		for number, act := range acts {
			if act.Spot == spot && !yield(number, act) {
				return
			}
		}
	}
}

// upTo returns the acts that are done at an hour.
func upTo(acts []api.Act, hour int) []api.Act {
	isLater := func(act api.Act) bool { return act.Hour > hour }
	if later := slices.IndexFunc(acts, isLater); later >= 0 {
		return acts[:later]
	}
	return acts
}

// heapOn returns the heap on a spot when these acts are done.
func heapOn(acts []api.Act, spot int) heap {
	var h heap
	for number, act := range actsOn(acts, spot) {
		h = h.after(number, act)
	}
	return h
}

// boundsOn returns what the acts on a spot say of their sums.
func boundsOn(acts []api.Act, spot int) []bound {
	var h heap
	var list []bound
	for number, act := range actsOn(acts, spot) {
		before := h.tipped
		if act.Take {
			before = h.taken
		}
		h = h.after(number, act)
		list = append(list,
			bound{sum: place(number), other: before, most: act.Mass.Max},
			bound{sum: before, other: place(number), most: -act.Mass.Min},
			h.atLeast(0))
	}
	return list
}

// sumsOf returns what is known of the sums of a ground.
func sumsOf(g api.Ground) (sums, api.Errno) {
	if e := Check(g); e != api.OK {
		return sums{}, e
	}
	known, mayBe := anySums(), true
	for spot := range g.Spots {
		known, mayBe = known.with(boundsOn(g.Acts, spot)...)
		if !mayBe {
			return sums{}, api.ErrConflict
		}
	}
	return known, api.OK
}
