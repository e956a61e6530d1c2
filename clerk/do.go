package clerk

import (
	"slices"

	"swarf/api"
	"swarf/gate"
	"swarf/pay"
	"swarf/pile"
	"swarf/span"
)

func (d desk) at(n []int) (desk, any, api.Errno) {
	e := unless(span.IsWithin(n[0], d.Hour, api.MaxHours), api.ErrValue)
	d.Hour = n[0]
	return d, done, e
}

func (d desk) empty(n []int) (desk, any, api.Errno) {
	return d.withEvent(api.Event{Kind: api.EventEmpty, Shown: n[0], Change: api.Range{Min: n[1], Max: n[2]}})
}

func (d desk) test(n []int) (desk, any, api.Errno) {
	return d.withEvent(api.Event{Kind: api.EventTest, Load: n[0], Shown: n[1], Change: api.Range{Min: n[2], Max: n[3]}})
}

func (d desk) load(n []int) (desk, any, api.Errno) {
	return d.withEvent(api.Event{Kind: api.EventLoad, Shown: n[0], Change: api.Range{Min: n[1], Max: n[2]}})
}

func (d desk) pass(n []int) (desk, any, api.Errno) {
	lorry := n[1]
	d = d.withDoing(api.Doing{Kind: api.DoPass, A: n[0], B: lorry, Count: n[2]})
	verdicts, e := gate.Lorries(d.Site)
	if e != api.OK {
		return d, nil, e
	}
	return d, verdict(verdicts[lorry]), api.OK
}

func (d desk) find(n []int) (desk, any, api.Errno) { return d.measured(api.DoFind, n[0]) }

func (d desk) clean(n []int) (desk, any, api.Errno) { return d.measured(api.DoClean, n[0]) }

// measured returns a desk after a pile was measured.
func (d desk) measured(kind, spot int) (desk, any, api.Errno) {
	d = d.withDoing(api.Doing{Kind: kind, A: spot})
	return d, done, errorOf(gate.Lorries(d.Site))
}

func (d desk) tip(n []int) (desk, any, api.Errno) {
	lorry, spot, sort := n[0], n[1], n[2]
	net, unweighed := d.weight(n[3], n[4])
	next := d.withDoing(api.Doing{Kind: api.DoTip, A: lorry, B: spot})
	next = next.withAct(api.Act{Spot: spot, Sort: sort, Mass: net})
	var room []int
	e := firstError(
		func() api.Errno { return unweighed },
		func() api.Errno { return gate.Check(next.Site) },
		func() api.Errno { return unless(d.isHarmless(lorry), api.ErrHeld) },
		func() api.Errno { return unless(net.Min >= 1, api.ErrFew) },
		func() (e api.Errno) {
			room, e = pile.Room(d.Ground, d.Hour, sort, net.Max)
			return e
		},
		func() api.Errno { return unless(slices.Contains(room, spot), api.ErrLimit) },
		func() api.Errno { return pile.Check(next.Ground) },
	)
	return next, done, e
}

// isHarmless tells whether a lorry surely carried no source.
func (d desk) isHarmless(lorry int) bool {
	verdicts, e := gate.Lorries(d.Site)
	return e == api.OK && verdicts[lorry] == api.Nowhere
}

func (d desk) take(n []int) (desk, any, api.Errno) {
	spot := n[0]
	next := d.withAct(api.Act{Spot: spot, Mass: api.Range{Min: n[1], Max: n[2]}, Take: true})
	e := firstError(
		func() api.Errno { return pile.Check(next.Ground) },
		func() api.Errno { return unless(d.isFree(spot), api.ErrHeld) },
		func() api.Errno { return errorOf(pile.Masses(next.Ground, d.Hour)) },
	)
	return next, done, e
}

// isFree tells whether there surely is no source in a pile.
func (d desk) isFree(spot int) bool {
	verdicts, e := gate.Piles(d.Site)
	return e == api.OK && verdicts[spot] == api.Nowhere
}

func (d desk) cash(n []int) (desk, any, api.Errno) {
	d = d.withDue(api.Due{Name: n[0], Cents: n[1], Cash: true})
	law, e := pay.Lawful(d.Till)
	if e != api.OK {
		return d, nil, e
	}
	return d, done, unless(law == api.Always, api.ErrLimit)
}

func (d desk) bank(n []int) (desk, any, api.Errno) {
	d = d.withDue(api.Due{Name: n[0], Cents: n[1]})
	return d, done, pay.Check(d.Till)
}
