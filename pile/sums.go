package pile

import "swarf/api"

// Sums are at places: at origin is the sum of nothing; each act has a place at which is the sum of all that was tipped on its spot up to this act, or, if it is a take, of all that was taken.
const (
	origin = 0
	places = api.MaxActs + 1
)

// place returns the place of the act with that number.
func place(number int) int { return origin + 1 + number }

// sums is what is known of sums: the one at i is at most sums[i][j] kilograms more than the one at j. All that follows from it is in it, too, so that each of its numbers is reached in a truth.
type sums [places][places]int

// bound says that a sum is at most so many kilograms more than another one.
type bound struct{ sum, other, most int }

// opposite returns the bound that is so just if b is not.
func (b bound) opposite() bound { return bound{sum: b.other, other: b.sum, most: -b.most - 1} }

// anySums returns what is known before anything is said of acts: no sum is more than all acts may have together.
func anySums() sums {
	var known sums
	for i := range known {
		for j := range known[i] {
			if i != j {
				known[i][j] = api.MaxActs * api.MaxMass
			}
		}
	}
	return known
}

// implies tells whether a bound is so in all truths.
func (known sums) implies(b bound) bool { return known[b.sum][b.other] <= b.most }

// with returns what is known if these bounds are so, too, and whether they are in any truth.
func (known sums) with(bounds ...bound) (sums, bool) {
	for _, b := range bounds {
		if known.implies(b.opposite()) {
			return sums{}, false
		}
		if !known.implies(b) {
			known = known.narrowed(b)
		}
	}
	return known, true
}

// narrowed returns what is known if a bound is so, too, and all that follows from it.
func (known sums) narrowed(b bound) sums {
	narrower := known
	for i := range known {
		for j := range known[i] {
			narrower[i][j] = min(known[i][j], known[i][b.sum]+b.most+known[b.other][j])
		}
	}
	return narrower
}

// verdict tells in which truths a bound is so.
func (known sums) verdict(b bound) int {
	if known.implies(b) {
		return api.Always
	}
	if known.implies(b.opposite()) {
		return api.Nowhere
	}
	return api.Unsure
}

// mass returns how much of a heap may lie on its spot.
func (known sums) mass(h heap) api.Range {
	return api.Range{Min: -known[h.taken][h.tipped], Max: known[h.tipped][h.taken]}
}
