package strip_test

import (
	"math"
	"math/rand"
	"slices"
	"testing"

	"swarf/api"
	"swarf/strip"
)

const a, n, u = api.Always, api.Nowhere, api.Unsure

// carErrors are cars with their first errors, in the chapter's order: each one has an error that comes later, too, where there is one.
var carErrors = []struct {
	name   string
	change func(c *api.Car)
	want   api.Errno
}{
	{"as it is", func(c *api.Car) {}, api.OK},
	{"no part", func(c *api.Car) { c.Parts, c.Swap = nil, -1 }, api.ErrFew},
	{"an empty list", func(c *api.Car) { c.Parts = []api.Part{} }, api.ErrFew},
	{"1 part", func(c *api.Car) { c.Parts, c.Looks = c.Parts[:1], nil }, api.OK},
	{"9 parts", func(c *api.Car) { c.Parts = slices.Repeat(c.Parts[:1], 9) }, api.OK},
	{"10 parts", func(c *api.Car) { c.Parts = make([]api.Part, 10) }, api.ErrMany},
	{"the first part first", func(c *api.Car) { c.Parts[0].Tool, c.Parts[1].Before = 0, []int{1} }, api.ErrValue},
	{"after itself", func(c *api.Car) { c.Parts[1] = bad(0, 20, 1) }, api.ErrUnknown},
	{"after the next one", func(c *api.Car) { c.Parts[1] = bad(0, 20, 2) }, api.ErrUnknown},
	{"the first one after itself", func(c *api.Car) { c.Parts[0] = bad(0, 20, 0) }, api.ErrUnknown},
	{"after -1", func(c *api.Car) { c.Parts[1] = bad(0, 20, -1) }, api.ErrUnknown},
	{"after one that is there and one that is not", func(c *api.Car) { c.Parts[4].Before = []int{3, 4} }, api.ErrUnknown},
	{"unknown before the order", func(c *api.Car) { c.Parts[4].Before = []int{3, -1} }, api.ErrUnknown},
	{"the order before unknown", func(c *api.Car) { c.Parts[4].Before = []int{3, 0, 9} }, api.ErrOrder},
	{"after 3 and 0", func(c *api.Car) { c.Parts[4] = bad(0, 5, 3, 0) }, api.ErrOrder},
	{"after 3 twice", func(c *api.Car) { c.Parts[4] = bad(0, 5, 3, 3) }, api.ErrOrder},
	{"after all", func(c *api.Car) { c.Parts[4].Before = []int{0, 1, 2, 3} }, api.OK},
	{"the tool 0", func(c *api.Car) { c.Parts[2].Tool, c.Parts[3].Before = 0, []int{3} }, api.ErrValue},
	{"the tool -1", func(c *api.Car) { c.Parts[2].Tool = -1 }, api.ErrValue},
	{"the tool 4", func(c *api.Car) { c.Parts[2].Tool = 4 }, api.OK},
	{"the tool 5", func(c *api.Car) { c.Parts[2].Tool, c.Looks = 5, make([]api.Look, 13) }, api.ErrValue},
	{"-1 minutes", func(c *api.Car) { c.Parts[4].Minutes, c.Looks = -1, make([]api.Look, 13) }, api.ErrValue},
	{"no minutes", func(c *api.Car) { c.Parts[4].Minutes = 0 }, api.OK},
	{"1000 minutes", func(c *api.Car) { c.Parts[4].Minutes = 1000 }, api.OK},
	{"1001 minutes", func(c *api.Car) { c.Parts[4].Minutes, c.Looks = 1001, make([]api.Look, 13) }, api.ErrValue},
	{"Swap -1", func(c *api.Car) { c.Swap, c.Looks = -1, make([]api.Look, 13) }, api.ErrValue},
	{"Swap 0", func(c *api.Car) { c.Swap = 0 }, api.OK},
	{"Swap 1000", func(c *api.Car) { c.Swap = 1000 }, api.OK},
	{"Swap 1001", func(c *api.Car) { c.Swap, c.Looks = 1001, make([]api.Look, 13) }, api.ErrValue},
	{"no look", func(c *api.Car) { c.Looks = nil }, api.OK},
	{"12 looks", func(c *api.Car) { c.Looks = make([]api.Look, 12); c.Wrong = 12 }, api.OK},
	{"13 looks", func(c *api.Car) { c.Looks = slices.Repeat([]api.Look{in(9)}, 13) }, api.ErrMany},
	{"a look at 5", func(c *api.Car) { c.Looks[3].Part, c.Wrong = 5, -1 }, api.ErrUnknown},
	{"a look at -1", func(c *api.Car) { c.Looks[0].Part, c.Wrong = -1, -1 }, api.ErrUnknown},
	{"Wrong -1", func(c *api.Car) { c.Wrong, c.Needs = -1, make([]int, 9) }, api.ErrValue},
	{"Wrong 0", func(c *api.Car) { c.Wrong = 0 }, api.OK},
	{"Wrong 12", func(c *api.Car) { c.Wrong = 12 }, api.OK},
	{"Wrong 13", func(c *api.Car) { c.Wrong, c.Needs = 13, make([]int, 9) }, api.ErrValue},
	{"no paper", func(c *api.Car) { c.Needs = nil }, api.OK},
	{"8 papers", func(c *api.Car) { c.Needs = []int{0, 1, 2, 3, 4, 5, 6, 8} }, api.OK},
	{"9 papers", func(c *api.Car) { c.Needs = []int{0, 1, 2, 3, 4, 5, 6, 7, 8} }, api.ErrMany},
	{"the paper -1", func(c *api.Car) { c.Needs = []int{-1, -2} }, api.ErrValue},
	{"the paper 9", func(c *api.Car) { c.Needs = []int{2, 9} }, api.ErrValue},
	{"a value before the order", func(c *api.Car) { c.Needs = []int{2, -1} }, api.ErrValue},
	{"the order before a value", func(c *api.Car) { c.Needs = []int{2, 1, 9} }, api.ErrOrder},
	{"a paper twice", func(c *api.Car) { c.Needs = []int{2, 2} }, api.ErrOrder},
}

// TestP4_1Check: Check, and all functions that return its error first.
func TestP4_1Check(t *testing.T) {
	for _, c := range carErrors {
		car := withCar(c.change)
		if e := strip.Check(car); e != c.want {
			t.Errorf("%s: Check %d, not %d", c.name, e, c.want)
		}
		if c.want == api.OK {
			continue
		}
		list, e1 := strip.Out(car)
		clean, e2 := strip.Clean(car)
		least, e3 := strip.Least(car)
		again, e4 := strip.Again(car)
		order, minutes, e5 := strip.Work(car)
		e6 := strip.Crush(car, nil)
		text, e7 := strip.Card(car)
		for i, e := range []api.Errno{e1, e2, e3, e4, e5, e6, e7} {
			if e != c.want {
				t.Errorf("%s: function %d returns %d, not %d", c.name, i, e, c.want)
			}
		}
		if list != nil || clean != 0 || least != 0 || again != nil || order != nil || minutes != 0 || text != "" {
			t.Errorf("%s: results beside an error", c.name)
		}
	}
}

// chain is three bad parts, each of which can come out only after the one before.
func chain() []api.Part { return []api.Part{bad(1, 1), bad(1, 1, 0), bad(1, 1, 1)} }

// apart is three parts that come out by themselves, the last one alone is not bad.
func apart() []api.Part { return []api.Part{bad(1, 1), bad(1, 1), part(1, 1)} }

// TestP4_1Out: Out, Clean and Least, at ordinary cars and at the edges.
func TestP4_1Out(t *testing.T) {
	for _, c := range []struct {
		name         string
		c            api.Car
		out          []int
		clean, least int
	}{
		{"C", carC(), []int{a, u, u, u, u}, n, 0},
		{"C with Wrong 0", mayWrong(0, carC()), []int{a, a, n, u, n}, n, 0},
		{"C with Wrong 2", mayWrong(2, carC()), []int{u, u, u, u, u}, u, 0},
		{"C with Wrong 12", mayWrong(12, carC()), []int{u, u, u, u, u}, u, 0},
		{"C with 0 in, 1 out", withCar(func(c *api.Car) { c.Looks, c.Wrong = []api.Look{in(0), out(1)}, 0 }), nil, 0, 1},
		{"no look", looked(chain()), []int{u, u, u}, u, 0},
		{"one out, so is what comes before", looked(chain(), out(1)), []int{a, a, u}, u, 0},
		{"one in, so is what comes after", looked(chain(), in(1)), []int{u, n, n}, n, 0},
		{"all out", looked(chain(), out(2)), []int{a, a, a}, a, 0},
		{"all in", looked(chain(), in(0)), []int{n, n, n}, n, 0},
		{"out after in", looked(chain(), in(0), out(2)), nil, 0, 1},
		{"one of both may be wrong", mayWrong(1, looked(chain(), in(0), out(2))), []int{u, u, u}, u, 1},
		{"two looks say more than one", mayWrong(1, looked(chain(), in(0), out(2), out(2))), []int{a, a, a}, a, 1},
		{"twice each", mayWrong(1, looked(chain(), in(0), in(0), out(2), out(2))), nil, 0, 2},
		{"each look for itself", mayWrong(2, looked(chain(), in(0), in(0), out(2), out(2))), []int{u, u, u}, u, 2},
		{"two that are there, one between", mayWrong(2, looked(chain(), in(0), in(0), out(2), out(2), in(2))), []int{n, n, n}, n, 2},
		{"out and in", looked(apart(), out(2), in(2)), nil, 0, 1},
		{"out or in", mayWrong(1, looked(apart(), out(2), in(2))), []int{u, u, u}, u, 1},
		{"no bad part left", looked(apart(), out(0), out(1)), []int{a, a, u}, a, 0},
		{"a bad part is left", looked(apart(), out(0), in(1)), []int{a, n, u}, n, 0},
		{"perhaps", looked(apart(), out(0), out(2)), []int{a, u, a}, u, 0},
		{"one that is not bad is left", looked(apart(), out(0), out(1), in(2)), []int{a, a, n}, a, 0},
		{"no bad part at all", looked([]api.Part{part(1, 1), part(1, 1, 0)}, in(1)), []int{u, n}, a, 0},
		{"no bad part, but not possible", looked([]api.Part{part(1, 1)}, in(0), out(0)), nil, 0, 1},
		{"all looks are wrong", mayWrong(12, looked([]api.Part{bad(1, 1)}, slices.Repeat([]api.Look{out(0)}, 12)...)), []int{u}, u, 0},
		{"all but one may be", mayWrong(11, looked([]api.Part{bad(1, 1)}, slices.Repeat([]api.Look{out(0)}, 12)...)), []int{a}, a, 0},
		{"six and six", mayWrong(5, looked([]api.Part{bad(1, 1)}, slices.Repeat([]api.Look{out(0), in(0)}, 6)...)), nil, 0, 6},
		{"nine parts", looked(slices.Repeat([]api.Part{bad(1, 1)}, 9), out(8)), []int{u, u, u, u, u, u, u, u, a}, u, 0},
	} {
		want := api.OK
		if c.out == nil {
			want = api.ErrConflict
		}
		list, e := strip.Out(c.c)
		clean, f := strip.Clean(c.c)
		if !slices.Equal(list, c.out) || clean != c.clean || e != want || f != want {
			t.Errorf("%s: %v %d, %d %d, not %v, %d", c.name, list, e, clean, f, c.out, c.clean)
		}
		if least, e := strip.Least(c.c); least != c.least || e != api.OK {
			t.Errorf("%s: Least %d %d, not %d", c.name, least, e, c.least)
		}
	}
}

// TestP4_2Again: the fewest parts to look at again, and the first ones of as many.
func TestP4_2Again(t *testing.T) {
	// Its truths are that none is out, and that both are.
	both := mayWrong(1, looked([]api.Part{part(1, 1), bad(1, 1, 0)}, in(0), out(1)))
	for _, c := range []struct {
		name string
		c    api.Car
		want []int
		e    api.Errno
	}{
		{"C", carC(), nil, api.OK},
		{"C with Wrong 2", mayWrong(2, carC()), []int{2, 4}, api.OK},
		{"C with 0 in, 1 out", withCar(func(c *api.Car) { c.Looks, c.Wrong = []api.Look{in(0), out(1)}, 0 }), nil, api.ErrConflict},
		{"surely clean", looked(chain(), out(2)), nil, api.OK},
		{"surely not", looked(chain(), in(1)), nil, api.OK},
		{"the last one of a chain", looked(chain()), []int{2}, api.OK},
		{"all that may be left", looked(apart()), []int{0, 1}, api.OK},
		{"the one that may be left", looked(apart(), out(0)), []int{1}, api.OK},
		{"no bad part", looked([]api.Part{part(1, 1), part(1, 1)}), nil, api.OK},
		{"a bad part that may be out by itself", looked([]api.Part{bad(1, 1), part(1, 1, 0)}), []int{0}, api.OK},
		{"nine parts", looked(slices.Repeat([]api.Part{bad(1, 1)}, 9)), []int{0, 1, 2, 3, 4, 5, 6, 7, 8}, api.OK},
		{"of two parts that tell as much the first one", both, []int{0}, api.OK},
	} {
		if list, e := strip.Again(c.c); !slices.Equal(list, c.want) || e != c.e {
			t.Errorf("%s: %v %d, not %v %d", c.name, list, e, c.want, c.e)
		}
	}
}

// swapping returns a car of these parts that takes 5 minutes for each change of a tool.
func swapping(parts ...api.Part) api.Car { return api.Car{Parts: parts, Swap: 5} }

// TestP4_3Work: the quickest order, the first one of several, and what is left to do at all.
func TestP4_3Work(t *testing.T) {
	for _, c := range []struct {
		name    string
		c       api.Car
		order   []int
		minutes int
		e       api.Errno
	}{
		{"C", carC(), []int{1, 2, 3, 4}, 74, api.OK},
		{"C with Wrong 0", mayWrong(0, carC()), []int{2, 3, 4}, 52, api.OK},
		{"C with 0 in, 1 out", withCar(func(c *api.Car) { c.Looks, c.Wrong = []api.Look{in(0), out(1)}, 0 }), nil, 0, api.ErrConflict},
		{"nothing is left", looked(chain(), out(2)), nil, 0, api.OK},
		{"nothing is bad", looked([]api.Part{part(1, 9), part(2, 9)}), nil, 0, api.OK},
		{"what is not bad is left alone", looked(apart()), []int{0, 1}, 2, api.OK},
		{"unless it has to be out before", swapping(part(1, 3), part(1, 4, 0), bad(1, 5, 1), part(1, 6)), []int{0, 1, 2}, 12, api.OK},
		{"what comes after is left alone", swapping(bad(1, 3), part(1, 4, 0)), []int{0}, 3, api.OK},
		{"only what surely is out is done", mayWrong(1, looked(chain(), out(1))), []int{0, 1, 2}, 3, api.OK},
		{"no change for the first one", swapping(bad(4, 7)), []int{0}, 7, api.OK},
		{"each tool once", swapping(bad(1, 1), bad(2, 1), bad(1, 1), bad(2, 1)), []int{0, 2, 1, 3}, 9, api.OK},
		{"changes that cost nothing", mayWrong(0, api.Car{Parts: swapping(bad(1, 1), bad(2, 1), bad(1, 1), bad(2, 1)).Parts}), []int{0, 1, 2, 3}, 4, api.OK},
		{"the other tool first", swapping(bad(1, 1), bad(2, 1), bad(1, 1, 1), bad(2, 1)), []int{1, 3, 0, 2}, 9, api.OK},
		{"forth and back", swapping(bad(1, 1), bad(2, 1, 0), bad(1, 1, 1)), []int{0, 1, 2}, 13, api.OK},
		{"what was done changes no tool", looked(swapping(bad(1, 1), bad(2, 1, 0)).Parts, out(0)), []int{1}, 1, api.OK},
		{"a tool again is worth it", swapping(bad(1, 1), bad(2, 1), bad(2, 1, 0), bad(1, 1, 1)), []int{0, 1, 2, 3}, 14, api.OK},
		{"nine parts", swapping(slices.Repeat([]api.Part{bad(1, 1000), bad(2, 1000), bad(3, 1000)}, 3)...), []int{0, 3, 6, 1, 4, 7, 2, 5, 8}, 9010, api.OK},
	} {
		if order, minutes, e := strip.Work(c.c); !slices.Equal(order, c.order) || minutes != c.minutes || e != c.e {
			t.Errorf("%s: %v %d %d, not %v %d %d", c.name, order, minutes, e, c.order, c.minutes, c.e)
		}
	}
}

// TestP4_4Crush: what forbids to crush a car, in its order.
func TestP4_4Crush(t *testing.T) {
	free := withCar(func(c *api.Car) { c.Looks, c.Wrong = []api.Look{out(2), out(4)}, 0 })
	never := withCar(func(c *api.Car) { c.Looks, c.Wrong = []api.Look{in(0), out(1)}, 0 })
	invalid := withCar(func(c *api.Car) { c.Swap = -1 })
	for _, c := range []struct {
		name   string
		c      api.Car
		papers []int
		want   api.Errno
	}{
		{"C", carC(), []int{5, 2}, api.ErrHeld},
		{"C without 2", carC(), []int{5}, api.ErrPaper},
		{"C without 5", carC(), []int{2}, api.ErrPaper},
		{"free", free, []int{2, 5}, api.OK},
		{"free, any papers", free, []int{math.MaxInt, 5, -1, 5, 2, math.MinInt, 9}, api.OK},
		{"free, without 5", free, []int{2, 4, 6}, api.ErrPaper},
		{"free, without papers", free, nil, api.ErrPaper},
		{"free, needs none", withCar(func(c *api.Car) { c.Looks, c.Wrong, c.Needs = free.Looks, 0, nil }), nil, api.OK},
		{"free, needs 0", withCar(func(c *api.Car) { c.Looks, c.Wrong, c.Needs = free.Looks, 0, []int{0} }), []int{1}, api.ErrPaper},
		{"perhaps", mayWrong(1, free), []int{2, 5}, api.ErrHeld},
		{"not possible", never, []int{2, 5}, api.ErrConflict},
		{"not possible, no paper", never, []int{2}, api.ErrPaper},
		{"not valid, no paper", invalid, nil, api.ErrValue},
		{"nothing is bad", looked([]api.Part{part(1, 1)}), nil, api.OK},
		{"nothing is bad, but not possible", looked([]api.Part{part(1, 1)}, in(0), out(0)), nil, api.ErrConflict},
	} {
		if e := strip.Crush(c.c, c.papers); e != c.want {
			t.Errorf("%s: %d, not %d", c.name, e, c.want)
		}
	}
}

// TestRules: no argument is changed or kept, and no result shares memory (R2, R4).
func TestRules(t *testing.T) {
	c := mayWrong(2, withCar(func(c *api.Car) {
		c.Looks = append(make([]api.Look, 0, 20), c.Looks...)
		c.Needs = append(make([]int, 0, 20), c.Needs...)
	}))
	kept := copyCar(c)
	results := func() [][]int {
		order, _, _ := strip.Work(c)
		return [][]int{first(strip.Out(c)), first(strip.Again(c)), order}
	}
	before := results()
	for i, list := range before {
		want := slices.Clone(list)
		list[0] = 99
		if now := results()[i]; !slices.Equal(now, want) {
			t.Errorf("function %d: two results share memory: %v, not %v", i, now, want)
		}
	}
	papers := []int{7, 5, 2}
	strip.Clean(c)
	strip.Least(c)
	strip.Crush(c, papers)
	text, _ := strip.Card(c)
	if !sameCar(c, kept) || !slices.Equal(papers, []int{7, 5, 2}) {
		t.Error("an argument was changed")
	}
	if !slices.Equal(c.Looks[:20], append(kept.Looks, make([]api.Look, 16)...)) || !slices.Equal(c.Needs[:20], append(kept.Needs, make([]int, 18)...)) {
		t.Error("something was written behind an argument")
	}
	read, _, _ := strip.Parse(text)
	read.Parts[4].Before[0], read.Looks[0].Part, read.Needs[0] = 99, 99, 99
	if other, _, _ := strip.Parse(text); !sameCar(other, kept) || !sameCar(c, kept) {
		t.Error("a result shares memory")
	}
}

// wild returns a random number, often one at a bound or far beyond.
func wild(r *rand.Rand) int {
	list := []int{0, 0, 0, 1, 1, 1, 2, 2, 3, -1, 4, 5, 8, 9, 12, 13, 15, 16, 63, 64, 65, 1000, 1001, math.MaxInt, math.MinInt, math.MaxInt32, math.MinInt32}
	return list[r.Intn(len(list))]
}

// wildList returns up to three wild numbers.
func wildList(r *rand.Rand) []int {
	var list []int
	for range r.Intn(4) {
		list = append(list, wild(r))
	}
	return list
}

// wildCar returns a car with some wild numbers.
func wildCar(r *rand.Rand) api.Car {
	c := randomCar(r, api.MaxParts)
	for range r.Intn(3) {
		i := r.Intn(len(c.Parts))
		c.Parts[i] = api.Part{Before: wildList(r), Bad: r.Intn(2) == 0, Tool: wild(r), Minutes: wild(r)}
	}
	if r.Intn(3) == 0 {
		c.Looks = append(c.Looks, api.Look{Part: wild(r)})
	}
	switch r.Intn(8) {
	case 0:
		c.Parts = nil
	case 1:
		c.Swap = wild(r)
	case 2:
		c.Wrong = wild(r)
	case 3:
		c.Needs = wildList(r)
	}
	return c
}

// TestP1: no call panics, whatever the arguments are.
func TestP1(t *testing.T) {
	r := rand.New(rand.NewSource(1))
	for range 10000 {
		c := wildCar(r)
		strip.Check(c)
		strip.Out(c)
		strip.Clean(c)
		strip.Least(c)
		strip.Again(c)
		strip.Work(c)
		strip.Crush(c, wildList(r))
		strip.Card(c)
		text := make([]byte, r.Intn(40))
		for i := range text {
			text[i] = "!.A1 0-+\nswapoutin\xff"[r.Intn(19)]
		}
		strip.Parse(string(text))
	}
}
