package mix

import (
	"swarf/api"
	"swarf/span"
)

// maxFractions is how many fractions a load has at most.
const maxFractions = 2*api.MaxSplits + 1

// countAfter returns how many fractions there are after so many splits, those that were split counted too.
func countAfter(splits int) int { return 2*splits + 1 }

// isFraction tells whether a load has a fraction of that number.
func isFraction(l api.Load, fraction int) bool {
	return fraction >= 0 && fraction < countAfter(len(l.Splits))
}

// isKilos tells whether n is within the bounds of kilograms.
func isKilos(n int) bool { return n >= 0 && n <= api.MaxKilos }

// checkKilos returns the error of a range of kilograms.
func checkKilos(r api.Range) api.Errno { return span.Check(r, 0, api.MaxKilos) }

// checkStuffs returns the first error of the materials of a load.
func checkStuffs(stuffs []api.Range) api.Errno {
	if e := span.Count(len(stuffs), 1, api.MaxStuffs); e != api.OK {
		return e
	}
	for _, stuff := range stuffs {
		if e := checkKilos(stuff); e != api.OK {
			return e
		}
	}
	return api.OK
}

// checkSorting returns the first error of how a split sorts so many materials.
func checkSorting(split api.Split, stuffs int) api.Errno {
	if len(split.Pulls) != stuffs || len(split.Wrong) != stuffs {
		return api.ErrForm
	}
	for _, wrong := range split.Wrong {
		if !isKilos(wrong) {
			return api.ErrValue
		}
	}
	return api.OK
}

// checkWeighed returns the first error of the weighings of a load.
func checkWeighed(l api.Load) api.Errno {
	var wasWeighed [maxFractions]bool
	for _, weighed := range l.Weighed {
		if !isFraction(l, weighed.Fraction) {
			return api.ErrUnknown
		}
		if wasWeighed[weighed.Fraction] {
			return api.ErrRepeat
		}
		wasWeighed[weighed.Fraction] = true
		if e := checkKilos(weighed.Kilos); e != api.OK {
			return e
		}
	}
	return api.OK
}

// checkTerms returns the first error of terms of dirt.
func checkTerms(terms []api.Term) api.Errno {
	if len(terms) > api.MaxTerms {
		return api.ErrMany
	}
	before := -1
	for _, term := range terms {
		if !isKilos(term.Above) || term.Times < 0 || term.Times > api.MaxTimes {
			return api.ErrValue
		}
		if term.Above <= before {
			return api.ErrOrder
		}
		before = term.Above
	}
	return api.OK
}
