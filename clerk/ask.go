package clerk

import (
	"swarf/api"
	"swarf/bridge"
	"swarf/gate"
	"swarf/pay"
	"swarf/pile"
	"swarf/span"
)

func (d desk) net(n []int) (any, api.Errno) { return d.weight(n[0], n[1]) }

// weight returns the net weight of a lorry that was weighed in one piece, without a driver.
func (d desk) weight(full, bare int) (api.Range, api.Errno) {
	return bridge.Net(d.Log, api.Slip{Full: []int{full}, Bare: []int{bare}, FullSeat: api.SeatEmpty, BareSeat: api.SeatEmpty})
}

func (d desk) mass(n []int) (any, api.Errno) {
	spot := n[0]
	if !span.IsWithin(spot, 0, len(d.Ground.Spots)-1) {
		return nil, api.ErrUnknown
	}
	masses, e := pile.Masses(d.Ground, d.Hour)
	if e != api.OK {
		return nil, e
	}
	return masses[spot], api.OK
}

func (d desk) suspects(n []int) (any, api.Errno) { return gate.Suspects(d.Site, n[0]) }

func (d desk) breaks([]int) (any, api.Errno) {
	perhaps, surely, e := pile.Breaks(d.Ground)
	return []int{perhaps, surely}, e
}

func (d desk) room(n []int) (any, api.Errno) { return pay.Room(d.Till, n[0], d.day) }

// report returns what is known of all that the counter has.
func (d desk) report() string {
	text := row("hour", d.Hour)
	zeros, _ := bridge.Zeros(d.Log)
	for event, zero := range zeros {
		text += row(eventWord, event, zero)
	}
	lorries, _ := gate.Lorries(d.Site)
	for lorry, hasSource := range lorries {
		text += row("lorry", lorry, verdict(hasSource))
	}
	masses, _ := pile.Masses(d.Ground, d.Hour)
	piles, _ := gate.Piles(d.Site)
	for spot, mass := range masses {
		text += row("spot", spot, mass, verdict(piles[spot]))
	}
	for name := range d.Till.Names {
		text += row("name", name, orError(pay.Room(d.Till, name, d.day)))
	}
	return text + row("end", len(d.Ground.Acts))
}
