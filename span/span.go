// Package span tells whether numbers, counts and ranges of whole numbers are valid, and what follows from two ranges.
package span

import "swarf/api"

// IsWithin tells whether n is from low to high.
func IsWithin(n, low, high int) bool { return n >= low && n <= high }

// Count returns the error of a number of things, of which there have to be from low to high.
func Count(n, low, high int) api.Errno {
	if n < low {
		return api.ErrFew
	}
	if n > high {
		return api.ErrMany
	}
	return api.OK
}

// Check returns the error of a range within the bounds low and high.
func Check(r api.Range, low, high int) api.Errno {
	if !IsWithin(r.Min, low, high) || !IsWithin(r.Max, low, high) {
		return api.ErrValue
	}
	if r.Min > r.Max {
		return api.ErrOrder
	}
	return api.OK
}

// Just returns the range of one number.
func Just(n int) api.Range { return api.Range{Min: n, Max: n} }

// Meet returns what two ranges have in common; Min is greater than Max if they have nothing.
func Meet(a, b api.Range) api.Range {
	return api.Range{Min: max(a.Min, b.Min), Max: min(a.Max, b.Max)}
}

// Plus returns the sums of a number of a and one of b.
func Plus(a, b api.Range) api.Range {
	return api.Range{Min: a.Min + b.Min, Max: a.Max + b.Max}
}

// Minus returns the differences of a number of a and one of b.
func Minus(a, b api.Range) api.Range {
	return api.Range{Min: a.Min - b.Max, Max: a.Max - b.Min}
}
