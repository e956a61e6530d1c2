package gate

import (
	"swarf/api"
	"swarf/span"
)

// What a number of a doing tells.
const (
	nothing = iota
	aGate
	aLorry
	aPile
)

// doingKind is a kind of a doing: its word and how many numbers it has in a journal, and what A and B are.
type doingKind struct {
	kind    int
	word    string
	numbers int
	a, b    int
}

var doingKinds = [...]doingKind{
	{api.DoPass, "pass", 3, aGate, aLorry},
	{api.DoTip, "tip", 2, aLorry, aPile},
	{api.DoMove, "move", 2, aPile, aPile},
	{api.DoFind, "find", 1, aPile, nothing},
	{api.DoClean, "clean", 1, aPile, nothing},
}

// kindOf returns the kind of a doing, if it has one.
func kindOf(doing api.Doing) (doingKind, bool) {
	for _, known := range doingKinds {
		if known.kind == doing.Kind {
			return known, true
		}
	}
	return doingKind{}, false
}

// isOne tells whether n is one of count things, which are numbered from 0 on.
func isOne(n, count int) bool { return n >= 0 && n < count }

// isThing tells whether a site has what a number of a doing tells.
func isThing(s api.Site, what, n int) bool {
	switch what {
	case aGate:
		return isOne(n, len(s.Gates))
	case aLorry:
		return isOne(n, s.Lorries)
	case aPile:
		return isOne(n, s.Piles)
	}
	return true
}

// checkGates returns the first error of the gates of a site.
func checkGates(gates []api.Gate) api.Errno {
	if e := span.Count(len(gates), 1, api.MaxGates); e != api.OK {
		return e
	}
	for _, gate := range gates {
		if e := span.Check(gate.Back, 0, api.MaxCount); e != api.OK {
			return e
		}
		if gate.Wander < 0 || gate.Wander > api.MaxCount {
			return api.ErrValue
		}
	}
	return api.OK
}

// checkDoings returns the first error of the doings of a site.
func checkDoings(s api.Site) api.Errno {
	if len(s.Doings) > api.MaxDoings {
		return api.ErrMany
	}
	var tipped set
	for _, doing := range s.Doings {
		if e := checkDoing(s, doing); e != api.OK {
			return e
		}
		if doing.Kind != api.DoTip {
			continue
		}
		if tipped.meets(only(doing.A)) {
			return api.ErrRepeat
		}
		tipped |= only(doing.A)
	}
	return api.OK
}

// checkDoing returns the first error of a doing by itself.
func checkDoing(s api.Site, doing api.Doing) api.Errno {
	kind, ok := kindOf(doing)
	if !ok {
		return api.ErrKind
	}
	if !isThing(s, kind.a, doing.A) || !isThing(s, kind.b, doing.B) {
		return api.ErrUnknown
	}
	if kind.b == nothing && doing.B != 0 || kind.b == kind.a && doing.B == doing.A {
		return api.ErrForm
	}
	if kind.kind != api.DoPass && doing.Count != 0 {
		return api.ErrForm
	}
	if doing.Count < 0 || doing.Count > 2*api.MaxCount {
		return api.ErrValue
	}
	return api.OK
}
