package strip

import (
	"swarf/api"
	"swarf/span"
)

// checkParts returns the first error of the parts of a car.
func checkParts(parts []api.Part) api.Errno {
	if e := span.Count(len(parts), 1, api.MaxParts); e != api.OK {
		return e
	}
	for i, part := range parts {
		if e := checkAscending(part.Before, i-1, api.ErrUnknown); e != api.OK {
			return e
		}
		if part.Tool < 1 || part.Tool > api.MaxTools || part.Minutes < 0 || part.Minutes > api.MaxMinutes {
			return api.ErrValue
		}
	}
	return api.OK
}

// checkLooks returns the first error of the looks of a car, and of how many may be wrong.
func checkLooks(c api.Car) api.Errno {
	if len(c.Looks) > api.MaxLooks {
		return api.ErrMany
	}
	for _, look := range c.Looks {
		if look.Part < 0 || look.Part >= len(c.Parts) {
			return api.ErrUnknown
		}
	}
	if c.Wrong < 0 || c.Wrong > api.MaxLooks {
		return api.ErrValue
	}
	return api.OK
}

// checkAscending returns beyond if a number of a list is not from 0 to most, ErrOrder if one is not greater than the one before, whichever comes first.
func checkAscending(list []int, most int, beyond api.Errno) api.Errno {
	before := -1
	for _, n := range list {
		if n < 0 || n > most {
			return beyond
		}
		if n <= before {
			return api.ErrOrder
		}
		before = n
	}
	return api.OK
}
