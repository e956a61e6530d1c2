package melt

import (
	"swarf/api"
	"swarf/span"
)

// maxPrice is the greatest price for which there may be a proof.
const maxPrice = 30 * api.MaxCost

// checkLimits returns the first error of the limits of an order.
func checkLimits(limits []int) api.Errno {
	if len(limits) > api.MaxMetals {
		return api.ErrMany
	}
	for _, limit := range limits {
		if !span.IsWithin(limit, 0, api.MaxGrams) {
			return api.ErrValue
		}
	}
	return api.OK
}

// checkBins returns the first error of the bins of an order with so many metals.
func checkBins(bins []api.Bin, metals int) api.Errno {
	if e := span.Count(len(bins), 1, api.MaxBins); e != api.OK {
		return e
	}
	for _, bin := range bins {
		if e := checkBin(bin, metals); e != api.OK {
			return e
		}
	}
	return api.OK
}

// checkBin returns the first error of a bin.
func checkBin(bin api.Bin, metals int) api.Errno {
	if len(bin.Grams) != metals {
		return api.ErrForm
	}
	for _, grams := range bin.Grams {
		if e := span.Check(grams, 0, api.MaxGrams); e != api.OK {
			return e
		}
	}
	isGrab := span.IsWithin(bin.Weight, 1, api.MaxGrab) && span.IsWithin(bin.Cost, 0, api.MaxCost)
	if !isGrab || !span.IsWithin(bin.Grabs, 0, api.MaxGrabs) {
		return api.ErrValue
	}
	return api.OK
}

// checkBlend returns the first error of an order and of a blend of it.
func checkBlend(o api.Order, blend []int) api.Errno {
	if e := Check(o); e != api.OK {
		return e
	}
	if len(blend) != len(o.Bins) {
		return api.ErrForm
	}
	for at, grabs := range blend {
		if !span.IsWithin(grabs, 0, o.Bins[at].Grabs) {
			return api.ErrValue
		}
	}
	return api.OK
}

// checkPrice returns the first error of an order and of a price for which a proof is asked.
func checkPrice(o api.Order, price int) api.Errno {
	if e := Check(o); e != api.OK {
		return e
	}
	if !span.IsWithin(price, 0, maxPrice) {
		return api.ErrValue
	}
	return api.OK
}
