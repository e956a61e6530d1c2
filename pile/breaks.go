package pile

import (
	"slices"

	"swarf/api"
)

// never is the hour of what does not happen; it is later than all others.
const never = -1

// earlier returns the earlier one of two hours.
func earlier[H ~int](a, b H) H {
	if a == never || b != never && b < a {
		return b
	}
	return a
}

// later returns the later one of two hours.
func later(a, b int) int {
	if earlier(a, b) == a {
		return b
	}
	return a
}

// perhapsBroken returns the first hour at which one of the rules may be broken.
func perhapsBroken(rules []rule, known sums) int {
	first := never
	for _, demands := range rules {
		first = earlier(first, firstBreach(demands, known))
	}
	return first
}

// firstBreach returns the first hour at which a rule may be broken.
func firstBreach(demands rule, known sums) int {
	for hour := range api.MaxHours + 1 {
		for _, d := range demands(hour) {
			if known.mayFail(d) {
				return hour
			}
		}
	}
	return never
}

// mayFail tells whether there is a truth in which nothing of a demand is so.
func (known sums) mayFail(d demand) bool {
	var opposites []bound
	for _, b := range d {
		opposites = append(opposites, b.opposite())
	}
	_, mayBe := known.with(opposites...)
	return mayBe
}

// step is a demand and its hour.
type step struct {
	hour int
	demand
}

// stepsOf returns the demands of all rules, hour by hour, without those that are met anyhow.
func stepsOf(rules []rule, known sums) []step {
	var list []step
	for hour := range api.MaxHours + 1 {
		for _, demands := range rules {
			for _, d := range demands(hour) {
				if !slices.ContainsFunc(d, known.implies) {
					list = append(list, step{hour, d})
				}
			}
		}
	}
	return list
}

// surelyBroken returns the first hour such that in each truth one of the rules is broken then or before: the last one of the hours at which truths break their first rule.
func surelyBroken(rules []rule, known sums) int {
	steps := stepsOf(rules, known)
	var search func(known sums, steps []step) int
	search = func(known sums, steps []step) int {
		// A demand that is met anyhow leaves but one way. Without this, ways would multiply hour by hour.
		isOpen := func(s step) bool { return !slices.ContainsFunc(s.demand, known.implies) }
		at := slices.IndexFunc(steps, isOpen)
		if at < 0 {
			return never
		}
		last := steps[at].hour
		for _, b := range steps[at].demand {
			if narrower, mayBe := known.with(b); mayBe {
				last = later(last, search(narrower, steps[at+1:]))
			}
		}
		return last
	}
	return search(known, steps)
}
