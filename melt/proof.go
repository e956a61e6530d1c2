package melt

import (
	"swarf/api"
	"swarf/span"
)

// claim is that no good blend of an order costs less than the price.
type claim struct {
	order api.Order
	price int
}

// reasons returns how to ask whether a reason is right for a box, from ByLight to ByDear; metal matters for ByBroken alone.
func reasons() []func(c claim, b box, metal int) bool {
	return []func(claim, box, int) bool{claim.isLight, claim.isHeavy, claim.isBroken, claim.isDear}
}

// isLight tells whether all blends in a box weigh too little.
func (c claim) isLight(b box, _ int) bool {
	kilos, _ := weigh(c.order, b.greatest())
	return kilos < c.order.Least
}

// isHeavy tells whether all blends in a box weigh too much.
func (c claim) isHeavy(b box, _ int) bool {
	kilos, _ := weigh(c.order, b.least())
	return kilos > c.order.Most
}

// isBroken tells whether no blend in a box keeps the limit of a metal in all truths, even if grabs could be cut.
func (c claim) isBroken(b box, metal int) bool {
	sum := 0
	for at, bin := range c.order.Bins {
		over := bin.Weight * (bin.Grams[metal].Max - c.order.Limits[metal])
		// As few grabs of a bad bin as may be, and as many of a good one, exceed the limit least.
		sum += min(b[at].Min*over, b[at].Max*over)
	}
	return sum > 0
}

// isDear tells whether all blends in a box cost the price or more.
func (c claim) isDear(b box, _ int) bool {
	_, cost := weigh(c.order, b.least())
	return cost >= c.price
}

// placesOf returns how many places a reason may be at: ByBroken at all metals, any other one at 0.
func (c claim) placesOf(reason int) int {
	if reason == api.ByBroken {
		return len(c.order.Limits)
	}
	return 1
}

// firstReason returns the first bound, not a cut, that is right for a box, if there is one.
func (c claim) firstReason(b box) (api.Bound, bool) {
	for i, isRight := range reasons() {
		reason := api.ByLight + i
		for at := range c.placesOf(reason) {
			if isRight(c, b, at) {
				return api.Bound{Reason: reason, At: at}, true
			}
		}
	}
	return api.Bound{}, false
}

// plainProof returns the plain proof of a claim; ErrLimit if the claim is false.
func (c claim) plainProof() (proof []api.Bound, e api.Errno) {
	defer func() {
		// Only a blend that shows that the claim is false stops the search for a proof.
		if recover() != nil {
			proof, e = nil, api.ErrLimit
		}
	}()
	return c.prove(nil, wholeBox(c.order)), api.OK
}

// prove returns a proof followed by the plain one of a box. It panics with a good blend that costs less than the price, if it comes to one: a box with such a blend has no reason.
func (c claim) prove(proof []api.Bound, b box) []api.Bound {
	if bound, ok := c.firstReason(b); ok {
		return append(proof, bound)
	}
	if b.isOne() {
		panic(b.least())
	}
	bin, upTo := b.middle()
	lower, upper := b.cut(bin, upTo)
	proof = append(proof, api.Bound{Reason: api.ByCut, At: bin, Cut: upTo})
	proof = c.prove(proof, lower)
	return c.prove(proof, upper)
}

// checkBound returns the first error of a bound for a box, by itself.
func (c claim) checkBound(bound api.Bound, b box) api.Errno {
	switch bound.Reason {
	case api.ByCut:
		return c.checkCut(bound, b)
	case api.ByBroken:
		if !span.IsWithin(bound.At, 0, len(c.order.Limits)-1) {
			return api.ErrUnknown
		}
	case api.ByLight, api.ByHeavy, api.ByDear:
	default:
		return api.ErrKind
	}
	isRight := reasons()[bound.Reason-api.ByLight]
	if !isRight(c, b, bound.At) {
		return api.ErrConflict
	}
	return api.OK
}

// checkCut returns the first error of a cut of a box.
func (c claim) checkCut(bound api.Bound, b box) api.Errno {
	if !span.IsWithin(bound.At, 0, len(c.order.Bins)-1) {
		return api.ErrUnknown
	}
	if !span.IsWithin(bound.Cut, b[bound.At].Min, b[bound.At].Max-1) {
		return api.ErrValue
	}
	return api.OK
}

// checker checks a proof of a claim from the front.
type checker struct {
	claim claim
	rest  []api.Bound
}

// check takes the proof of a box from the rest, and returns its first error.
func (c *checker) check(b box) api.Errno {
	if len(c.rest) == 0 {
		return api.ErrForm
	}
	bound := c.rest[0]
	c.rest = c.rest[1:]
	if e := c.claim.checkBound(bound, b); e != api.OK || bound.Reason != api.ByCut {
		return e
	}
	lower, upper := b.cut(bound.At, bound.Cut)
	if e := c.check(lower); e != api.OK {
		return e
	}
	return c.check(upper)
}
