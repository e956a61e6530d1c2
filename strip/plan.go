package strip

import (
	"cmp"
	"slices"

	"swarf/api"
)

// cheapest returns the list that costs least, of several the first one in lexicographic order.
func cheapest[T cmp.Ordered](cost func([]T) int, lists ...[]T) []T {
	return slices.MinFunc(lists, func(a, b []T) int {
		return cmp.Or(cmp.Compare(cost(a), cost(b)), slices.Compare(a, b))
	})
}

// differences returns for each truth in which a car is clean, and each one in which it is not, the parts that are out in one of them alone.
func differences(c api.Car, truths []state) map[state]bool {
	bad := badParts(c)
	found := make(map[state]bool)
	for _, clean := range truths {
		if !clean.hasAll(bad) {
			continue
		}
		for _, other := range truths {
			if !other.hasAll(bad) {
				found[clean^other] = true
			}
		}
	}
	return found
}

// telling returns the sets of parts of a car that have at least one part of each of several others.
func telling(c api.Car, others map[state]bool) map[state]bool {
	found := make(map[state]bool)
	for parts := range only(len(c.Parts)) {
		found[parts] = true
	}
	for other := range others {
		for parts := range found {
			if !parts.meets(other) {
				delete(found, parts)
			}
		}
	}
	return found
}

// whenDone returns the parts that are out when all is done that is left to do, if those in sure are out.
func whenDone(c api.Car, sure state) state {
	done := sure | badParts(c)
	// Only parts of lesser numbers have to be out before a part, so one way from the last part to the first one finds all.
	for i, part := range slices.Backward(c.Parts) {
		if done.has(i) {
			done |= setOf(part.Before)
		}
	}
	return done
}

// minutesOf returns the minutes that an order of work takes.
func minutesOf(c api.Car, order []int) int {
	minutes := 0
	for i, part := range order {
		minutes += c.Parts[part].Minutes
		if i > 0 && c.Parts[part].Tool != c.Parts[order[i-1]].Tool {
			minutes += c.Swap
		}
	}
	return minutes
}

// quickest returns the order of work from a state of a car to another one that takes the fewest minutes, of several the first one.
func quickest(c api.Car, from, to state) []int {
	minutes := func(order []int) int { return minutesOf(c, order) }
	found := map[state][][]int{from: {nil}}
	for now := range states(c) {
		if now == to {
			break
		}
		orders := found[now]
		delete(found, now)
		for _, part := range (to &^ now).members() {
			if !now.mayComeOut(c.Parts[part]) {
				continue
			}
			next := now | only(part)
			for _, order := range orders {
				longer := append(slices.Clone(order), part)
				found[next] = withOrder(found[next], longer, minutes)
			}
		}
	}
	return cheapest(minutes, found[to]...)
}

// withOrder returns orders of the same parts with one more. Of two that end with the same part the better one is kept alone: what comes next takes as long after either.
func withOrder(orders [][]int, order []int, minutes func([]int) int) [][]int {
	last := len(order) - 1
	for i, other := range orders {
		if other[last] == order[last] {
			orders[i] = cheapest(minutes, other, order)
			return orders
		}
	}
	return append(orders, order)
}
