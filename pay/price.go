package pay

import "swarf/api"

// A price is that of a tonne, and a share is counted in thousandths.
const (
	tonne = 1000
	whole = 1000
)

// price returns the price of a day, if it has one.
func price(fixes []api.Fix, day int) (cents int, ok bool) {
	for _, fix := range fixes {
		if fix.Day <= day {
			cents, ok = fix.Cents, true
		}
	}
	return cents, ok
}

// worth returns the cents that a share of some kilograms is worth at a price.
func worth(kilos, price, share int) int { return kilos * price * share / (tonne * whole) }
