package melt

import (
	"iter"

	"swarf/api"
)

// box is the least and the greatest number of grabs of each bin; of a bin that is not there, both are 0.
type box [api.MaxBins]api.Range

// wholeBox returns the box of all blends of an order.
func wholeBox(o api.Order) box {
	var b box
	for at, bin := range o.Bins {
		b[at].Max = bin.Grabs
	}
	return b
}

// only returns the box of one blend alone.
func only(one blend) box {
	var b box
	for at, grabs := range one {
		b[at] = api.Range{Min: grabs, Max: grabs}
	}
	return b
}

// least returns the blend with the least numbers of all bins.
func (b box) least() blend {
	var list blend
	for at, grabs := range b {
		list[at] = grabs.Min
	}
	return list
}

// greatest returns the blend with the greatest numbers of all bins.
func (b box) greatest() blend {
	var list blend
	for at, grabs := range b {
		list[at] = grabs.Max
	}
	return list
}

// isOne tells whether one blend alone is in a box.
func (b box) isOne() bool { return b == only(b.least()) }

// cut returns the boxes of the blends with up to so many grabs of a bin, and of those with more.
func (b box) cut(bin, upTo int) (lower, upper box) {
	lower, upper = b, b
	lower[bin].Max = upTo
	upper[bin].Min = upTo + 1
	return lower, upper
}

// middle returns where the plain proof cuts a box with several blends.
func (b box) middle() (bin, upTo int) {
	for b[bin].Min == b[bin].Max {
		bin++
	}
	return bin, (b[bin].Min + b[bin].Max) / 2
}

// blends hands out the blends in a box, in lexicographic order.
func (b box) blends() iter.Seq[blend] {
	return func(yield func(blend) bool) {
		next, isThere := b.least(), true
		for isThere && yield(next) {
			next, isThere = b.after(next)
		}
	}
}

// after returns the blend that comes next in a box, if there is one.
func (b box) after(last blend) (blend, bool) {
	next := last
	for bin := len(b) - 1; bin >= 0; bin-- {
		if next[bin] < b[bin].Max {
			next[bin]++
			return next, true
		}
		next[bin] = b[bin].Min
	}
	return last, false
}
