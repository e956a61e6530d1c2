package strip_test

import (
	"math/rand"
	"slices"

	"swarf/api"
	"swarf/strip"
)

// part returns a part that is not bad.
func part(tool, minutes int, before ...int) api.Part {
	return api.Part{Before: before, Tool: tool, Minutes: minutes}
}

// bad returns a bad part.
func bad(tool, minutes int, before ...int) api.Part {
	return api.Part{Before: before, Bad: true, Tool: tool, Minutes: minutes}
}

// out and in return looks.
func out(part int) api.Look { return api.Look{Part: part, Out: true} }

func in(part int) api.Look { return api.Look{Part: part} }

// carC is C of the chapter's examples.
func carC() api.Car {
	return api.Car{
		Parts: []api.Part{bad(1, 10), bad(2, 20, 0), bad(1, 15, 1), part(3, 30), bad(3, 5, 0, 3)},
		Swap:  2,
		Looks: []api.Look{out(0), out(1), in(2), in(4)},
		Wrong: 1,
		Needs: []int{2, 5},
	}
}

// withCar returns C with a change.
func withCar(change func(c *api.Car)) api.Car {
	c := carC()
	change(&c)
	return c
}

// looked returns a car of these parts with these looks, of which none is wrong.
func looked(parts []api.Part, looks ...api.Look) api.Car {
	return api.Car{Parts: parts, Looks: looks}
}

// mayWrong returns a car of which so many looks may be wrong.
func mayWrong(wrong int, c api.Car) api.Car {
	c.Wrong = wrong
	return c
}

// plus returns a car with more looks at the end.
func plus(c api.Car, more ...api.Look) api.Car {
	c.Looks = append(slices.Clone(c.Looks), more...)
	return c
}

// copyCar returns a copy that shares no memory.
func copyCar(c api.Car) api.Car {
	c.Parts, c.Looks, c.Needs = slices.Clone(c.Parts), slices.Clone(c.Looks), slices.Clone(c.Needs)
	for i := range c.Parts {
		c.Parts[i].Before = slices.Clone(c.Parts[i].Before)
	}
	return c
}

// sameCar tells whether two cars are equal.
func sameCar(a, b api.Car) bool {
	samePart := func(a, b api.Part) bool {
		return slices.Equal(a.Before, b.Before) && a.Bad == b.Bad && a.Tool == b.Tool && a.Minutes == b.Minutes
	}
	return slices.EqualFunc(a.Parts, b.Parts, samePart) && a.Swap == b.Swap && slices.Equal(a.Looks, b.Looks) && a.Wrong == b.Wrong && slices.Equal(a.Needs, b.Needs)
}

// first returns the first of two results.
func first[T any](x T, e api.Errno) T { return x }

// allStates visits all states of a car: for each part, one by one, whether it is out.
func allStates(c api.Car, visit func(isOut []bool)) {
	isOut := make([]bool, len(c.Parts))
	var choose func(i int)
	choose = func(i int) {
		if i == len(c.Parts) {
			visit(isOut)
			return
		}
		isOut[i] = false
		choose(i + 1)
		if !slices.ContainsFunc(c.Parts[i].Before, func(before int) bool { return !isOut[before] }) {
			isOut[i] = true
			choose(i + 1)
			isOut[i] = false
		}
	}
	choose(0)
}

// wrongs returns how many looks are wrong in a state.
func wrongs(c api.Car, isOut []bool) int {
	count := 0
	for _, look := range c.Looks {
		if isOut[look.Part] != look.Out {
			count++
		}
	}
	return count
}

// isClean tells whether all bad parts are out in a state.
func isClean(c api.Car, isOut []bool) bool {
	for i, part := range c.Parts {
		if part.Bad && !isOut[i] {
			return false
		}
	}
	return true
}

// tally is in how many truths something is so, and in how many it is not.
type tally struct{ yes, no int }

func (t *tally) add(isSo bool) {
	if isSo {
		t.yes++
	} else {
		t.no++
	}
}

func (t tally) verdict() int {
	switch {
	case t.no == 0:
		return api.Always
	case t.yes == 0:
		return api.Nowhere
	}
	return api.Unsure
}

// told is what can be said of a car: all its truths, the verdicts, and the least number of wrong looks.
type told struct {
	truths       [][]bool
	out          []int
	clean, least int
}

// tryAll says all of a car by going through all states.
func tryAll(c api.Car) told {
	all := told{least: len(c.Looks)}
	outs, clean := make([]tally, len(c.Parts)), tally{}
	allStates(c, func(isOut []bool) {
		all.least = min(all.least, wrongs(c, isOut))
		if wrongs(c, isOut) > c.Wrong {
			return
		}
		all.truths = append(all.truths, slices.Clone(isOut))
		clean.add(isClean(c, isOut))
		for i := range outs {
			outs[i].add(isOut[i])
		}
	})
	if all.truths == nil {
		return all
	}
	all.clean = clean.verdict()
	for _, t := range outs {
		all.out = append(all.out, t.verdict())
	}
	return all
}

// tells tells whether it is known whether the car is clean, if it is known of the parts of a list whether they are out.
func (t told) tells(c api.Car, list []int) bool {
	for _, clean := range t.truths {
		for _, other := range t.truths {
			isSame := !slices.ContainsFunc(list, func(part int) bool { return clean[part] != other[part] })
			if isSame && isClean(c, clean) && !isClean(c, other) {
				return false
			}
		}
	}
	return true
}

// lists returns all lists of parts, ascending: the fewest parts first, and those with as many in lexicographic order.
func lists(parts int) [][]int {
	var all [][]int
	for set := range 1 << parts {
		list := []int{}
		for part := range parts {
			if set>>part&1 == 1 {
				list = append(list, part)
			}
		}
		all = append(all, list)
	}
	slices.SortFunc(all, func(a, b []int) int {
		if len(a) != len(b) {
			return len(a) - len(b)
		}
		return slices.Compare(a, b)
	})
	return all
}

// leftToDo returns the parts that are left to do.
func (t told) leftToDo(c api.Car) []int {
	var todo []int
	var add func(i int)
	add = func(i int) {
		if t.out[i] == api.Always || slices.Contains(todo, i) {
			return
		}
		todo = append(todo, i)
		for _, before := range c.Parts[i].Before {
			add(before)
		}
	}
	for i, part := range c.Parts {
		if part.Bad {
			add(i)
		}
	}
	slices.Sort(todo)
	return todo
}

// allOrders visits all orders of work of parts, in lexicographic order, each with its minutes.
func allOrders(c api.Car, todo []int, visit func(order []int, minutes int)) {
	var order []int
	var next func(minutes int)
	next = func(minutes int) {
		if len(order) == len(todo) {
			visit(order, minutes)
			return
		}
		for _, i := range todo {
			isBlocked := func(before int) bool { return slices.Contains(todo, before) && !slices.Contains(order, before) }
			if slices.Contains(order, i) || slices.ContainsFunc(c.Parts[i].Before, isBlocked) {
				continue
			}
			takes := c.Parts[i].Minutes
			if len(order) > 0 && c.Parts[order[len(order)-1]].Tool != c.Parts[i].Tool {
				takes += c.Swap
			}
			order = append(order, i)
			next(minutes + takes)
			order = order[:len(order)-1]
		}
	}
	next(0)
}

// tell says of a car what the package says of it.
func tell(c api.Car) (told, api.Errno) {
	list, e := strip.Out(c)
	if e != api.OK {
		return told{}, e
	}
	return told{out: list, clean: first(strip.Clean(c)), least: first(strip.Least(c))}, api.OK
}

// between returns a random number from low to high.
func between(r *rand.Rand, low, high int) int { return low + r.Intn(high-low+1) }

// someOf returns some of the numbers below n, ascending, each with the chance of one in so many.
func someOf(r *rand.Rand, n, chance int) []int {
	var list []int
	for i := range n {
		if r.Intn(chance) == 0 {
			list = append(list, i)
		}
	}
	return list
}

// randomParts returns up to so many random parts.
func randomParts(r *rand.Rand, most int) []api.Part {
	var list []api.Part
	chance := between(r, 2, 5)
	for i := range between(r, 1, most) {
		list = append(list, api.Part{
			Before:  someOf(r, i, chance),
			Bad:     r.Intn(2) == 0,
			Tool:    between(r, 1, api.MaxTools),
			Minutes: []int{r.Intn(4), r.Intn(1001)}[r.Intn(2)],
		})
	}
	return list
}

// randomState returns a random state of a car.
func randomState(r *rand.Rand, c api.Car) []bool {
	isOut := make([]bool, len(c.Parts))
	chance := between(r, 2, 6)
	for i, part := range c.Parts {
		isFree := !slices.ContainsFunc(part.Before, func(before int) bool { return !isOut[before] })
		isOut[i] = isFree && r.Intn(chance) > 0
	}
	return isOut
}

// live returns a random car of up to so many parts, with the truth that its looks were made of.
func live(r *rand.Rand, most int) (api.Car, []bool) {
	c := api.Car{Parts: randomParts(r, most), Swap: []int{0, 1, r.Intn(1001)}[r.Intn(3)], Needs: someOf(r, api.MaxNeeds, 3)}
	isOut := randomState(r, c)
	wrong := 0
	for range between(r, 0, api.MaxLooks) {
		look := api.Look{Part: r.Intn(len(c.Parts))}
		look.Out = isOut[look.Part]
		if r.Intn(6) == 0 {
			look.Out = !look.Out
			wrong++
		}
		c.Looks = append(c.Looks, look)
	}
	c.Wrong = min(api.MaxLooks, wrong+[]int{0, 0, 1, 2}[r.Intn(4)])
	return c, isOut
}

// randomCar returns a random car of up to so many parts, sometimes with looks that contradict each other.
func randomCar(r *rand.Rand, most int) api.Car {
	c, _ := live(r, most)
	for i := range c.Looks {
		if r.Intn(8) == 0 {
			c.Looks[i].Out = !c.Looks[i].Out
		}
	}
	if r.Intn(4) == 0 {
		c.Wrong = r.Intn(2)
	}
	return c
}
