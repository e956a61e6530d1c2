package pay

import (
	"swarf/api"
	"swarf/span"
)

// never is more than the trades of any plan.
const never = api.MaxDays*api.MaxLots + 1

// exposed returns by how many kilograms the yard is exposed on a day on which so many lots are sold ahead.
func exposed(h api.Hedge, day, lots int) api.Range {
	return span.Minus(h.Stock[day], span.Just(h.Lot*lots))
}

// isBounded tells whether the yard is exposed on a day, in every truth, within the bound.
func isBounded(h api.Hedge, day, lots int) bool {
	kilos := exposed(h, day, lots)
	return kilos.Min >= -h.Bound && kilos.Max <= h.Bound
}

// tradesBetween returns the trades that lead from so many lots to so many others.
func tradesBetween(a, b int) int { return max(a-b, b-a) }

// forecast is the fewest trades from each day on, by how many lots were sold ahead on the day before; never if they lead to no plan. After the last day there are none.
type forecast [api.MaxDays + 1][api.MaxLots + 1]int

// forecastOf returns the forecast of a hedge.
func forecastOf(h api.Hedge) *forecast {
	var f forecast
	for day := len(h.Stock) - 1; day >= 0; day-- {
		for held := range f[day] {
			f[day][held] = f.tradesFrom(h, day, held)
		}
	}
	return &f
}

// tradesFrom returns the fewest trades from a day on, if those from the next day on are known.
func (f *forecast) tradesFrom(h api.Hedge, day, held int) int {
	trades := never
	for lots, later := range f[day+1] {
		if isBounded(h, day, lots) {
			trades = min(trades, tradesBetween(held, lots)+later)
		}
	}
	return trades
}

// begun is a plan of the first days, its trades, and how many lots are sold ahead at its end.
type begun struct {
	plan         []int
	trades, held int
}

// with returns what is begun with one day more. Many plans begin as this one does, so each one's new day needs memory of its own: none is left to add to.
func (b begun) with(lots int) begun {
	days := len(b.plan)
	return begun{
		plan:   append(b.plan[:days:days], lots),
		trades: b.trades + tradesBetween(b.held, lots),
		held:   lots,
	}
}

// firstPlan returns the first plan, in lexicographic order, with so many trades, which are the fewest ones.
func (f *forecast) firstPlan(h api.Hedge, fewest int) []int {
	stack := []begun{{held: h.Held}}
	for len(stack) > 0 {
		top := len(stack) - 1
		b := stack[top]
		stack = stack[:top]
		day := len(b.plan)
		if b.trades+f[day][b.held] > fewest {
			continue
		}
		if day == len(h.Stock) {
			return b.plan
		}
		// What comes first has to lie on top.
		for lots := api.MaxLots; lots >= 0; lots-- {
			if isBounded(h, day, lots) {
				stack = append(stack, b.with(lots))
			}
		}
	}
	return nil
}
