package mix_test

import (
	"math"
	"math/rand"
	"slices"
	"testing"

	"swarf/api"
	"swarf/mix"
)

// again is a split of the pulled fraction of the first split of L.
func again() api.Split {
	return api.Split{Of: 1, Pulls: []bool{false, true}, Wrong: []int{1, 2}}
}

// loadErrors are loads with their first errors, in the chapter's order: each one has an error that comes later, too, where there is one.
var loadErrors = []struct {
	name   string
	change func(l *api.Load)
	want   api.Errno
}{
	{"as it is", func(l *api.Load) {}, api.OK},
	{"without splits", func(l *api.Load) { l.Splits, l.Weighed = nil, l.Weighed[:1] }, api.OK},
	{"without weighings", func(l *api.Load) { l.Weighed = nil }, api.OK},
	{"no material", func(l *api.Load) { l.Stuffs, l.Splits = nil, make([]api.Split, 5) }, api.ErrFew},
	{"an empty list", func(l *api.Load) { l.Stuffs = []api.Range{} }, api.ErrFew},
	{"four materials", func(l *api.Load) { l.Stuffs, l.Splits, l.Weighed = make([]api.Range, 4), nil, nil }, api.OK},
	{"five materials", func(l *api.Load) { l.Stuffs = slices.Repeat([]api.Range{rng(-1, 0)}, 5) }, api.ErrMany},
	{"from -1", func(l *api.Load) { l.Stuffs[0] = rng(-1, 5) }, api.ErrValue},
	{"to 100001", func(l *api.Load) { l.Stuffs[1] = rng(5, 100001) }, api.ErrValue},
	{"from 100001 to 0", func(l *api.Load) { l.Stuffs[1] = rng(100001, 0) }, api.ErrValue},
	{"from 5 to -1", func(l *api.Load) { l.Stuffs[1] = rng(5, -1) }, api.ErrValue},
	{"0..100000", func(l *api.Load) { l.Stuffs[1] = rng(0, 100000) }, api.OK},
	{"6..5", func(l *api.Load) { l.Stuffs[1], l.Splits = rng(6, 5), make([]api.Split, 5) }, api.ErrOrder},
	{"the first material first", func(l *api.Load) { l.Stuffs[0], l.Stuffs[1] = rng(6, 5), rng(-1, 0) }, api.ErrOrder},
	{"four splits", func(l *api.Load) {
		l.Splits = append(l.Splits, again(), again(), again())
		l.Splits[2].Of, l.Splits[3].Of = 4, 6
	}, api.OK},
	{"five splits", func(l *api.Load) { l.Splits = make([]api.Split, 5) }, api.ErrMany},
	{"split of -1", func(l *api.Load) { l.Splits[0].Of, l.Splits[0].Pulls = -1, nil }, api.ErrUnknown},
	{"split of what it makes", func(l *api.Load) { l.Splits[0].Of = 1 }, api.ErrUnknown},
	{"split of what comes later", func(l *api.Load) { l.Splits = append(l.Splits, again()); l.Splits[1].Of = 3 }, api.ErrUnknown},
	{"split of the rest", func(l *api.Load) { l.Splits = append(l.Splits, again()); l.Splits[1].Of = 2 }, api.OK},
	{"split twice", func(l *api.Load) { l.Splits = append(l.Splits, api.Split{}) }, api.ErrRepeat},
	{"split twice, later", func(l *api.Load) { l.Splits = append(l.Splits, again(), again()) }, api.ErrRepeat},
	{"the first split first", func(l *api.Load) { l.Splits[0].Wrong[1], l.Splits = -1, append(l.Splits, api.Split{Of: 9}) }, api.ErrValue},
	{"one sign", func(l *api.Load) { l.Splits[0].Pulls, l.Splits[0].Wrong[0] = []bool{true}, -1 }, api.ErrForm},
	{"three signs", func(l *api.Load) { l.Splits[0].Pulls = make([]bool, 3) }, api.ErrForm},
	{"one number of Wrong", func(l *api.Load) { l.Splits[0].Wrong = []int{-1} }, api.ErrForm},
	{"three numbers of Wrong", func(l *api.Load) { l.Splits[0].Wrong = make([]int, 3) }, api.ErrForm},
	{"one sign and one number", func(l *api.Load) { l.Splits[0].Pulls, l.Splits[0].Wrong = []bool{true}, []int{1} }, api.ErrForm},
	{"Wrong -1", func(l *api.Load) { l.Splits[0].Wrong[1], l.Weighed[0].Fraction = -1, 9 }, api.ErrValue},
	{"Wrong 100001", func(l *api.Load) { l.Splits[0].Wrong[0] = 100001 }, api.ErrValue},
	{"Wrong 0 and 100000", func(l *api.Load) { l.Splits[0].Wrong = []int{0, 100000} }, api.OK},
	{"weighing of -1", func(l *api.Load) { l.Weighed[0].Fraction = -1 }, api.ErrUnknown},
	{"weighing of 3", func(l *api.Load) { l.Weighed[1] = api.Weighed{Fraction: 3, Kilos: rng(2, 1)} }, api.ErrUnknown},
	{"weighing of the last one", func(l *api.Load) { l.Weighed[1].Fraction = 2 }, api.OK},
	{"weighings in another order", func(l *api.Load) { slices.Reverse(l.Weighed) }, api.OK},
	{"weighed twice", func(l *api.Load) { l.Weighed[1] = api.Weighed{Kilos: rng(2, 1)} }, api.ErrRepeat},
	{"weighed -1", func(l *api.Load) { l.Weighed[1].Kilos = rng(-1, 5) }, api.ErrValue},
	{"weighed 100001", func(l *api.Load) { l.Weighed[1].Kilos = rng(5, 100001) }, api.ErrValue},
	{"weighed 2..1", func(l *api.Load) { l.Weighed[1].Kilos = rng(2, 1) }, api.ErrOrder},
	{"the first weighing first", func(l *api.Load) { l.Weighed[0].Kilos, l.Weighed[1].Fraction = rng(2, 1), 9 }, api.ErrOrder},
}

// TestP2_1Check: Check, and all functions that return its error first.
func TestP2_1Check(t *testing.T) {
	for _, c := range loadErrors {
		l := withLoad(c.change)
		if e := mix.Check(l); e != c.want {
			t.Errorf("%s: Check %d, not %d", c.name, e, c.want)
		}
		if c.want == api.OK {
			continue
		}
		holds, a := mix.Holds(l)
		weights, b := mix.Weights(l)
		is, d := mix.Pure(l, 9, 9, -1)
		text, f := mix.Ticket(l)
		for i, e := range []api.Errno{a, b, d, f} {
			if e != c.want {
				t.Errorf("%s: function %d returns %d, not %d", c.name, i, e, c.want)
			}
		}
		if holds != nil || weights != nil || is != 0 || text != "" {
			t.Errorf("%s: results beside an error", c.name)
		}
	}
}

// big returns a load of four materials, each from 0 to MaxKilos, that are never sorted wrong.
func big() api.Load {
	return api.Load{
		Stuffs: slices.Repeat([]api.Range{rng(0, 100000)}, 4),
		Splits: []api.Split{{Pulls: []bool{true, true, false, false}, Wrong: make([]int, 4)}},
	}
}

// TestP2_1Holds: Holds and Weights, at ordinary loads and at the edges.
func TestP2_1Holds(t *testing.T) {
	all := rng(0, 100000)
	one := func(change func(l *api.Load)) api.Load {
		l := api.Load{Stuffs: []api.Range{rng(5, 9)}}
		change(&l)
		return l
	}
	for _, c := range []struct {
		name    string
		l       api.Load
		holds   [][]api.Range
		weights []api.Range
		want    api.Errno
	}{
		{"L", loadL(), [][]api.Range{{rng(37, 47), rng(23, 33)}, {rng(37, 42), rng(0, 3)}, {rng(0, 5), rng(23, 30)}}, []api.Range{rng(70, 70), rng(40, 42), rng(28, 30)}, api.OK},
		{"1 weighs 55..60", withLoad(func(l *api.Load) { l.Weighed[1].Kilos = rng(55, 60) }), nil, nil, api.ErrConflict},
		{"1 weighs 53..60", withLoad(func(l *api.Load) { l.Weighed[1].Kilos = rng(53, 60) }), [][]api.Range{{rng(50, 50), rng(20, 20)}, {rng(50, 50), rng(3, 3)}, {rng(0, 0), rng(17, 17)}}, []api.Range{rng(70, 70), rng(53, 53), rng(17, 17)}, api.OK},
		{"0 weighs 39", withLoad(func(l *api.Load) { l.Weighed[0].Kilos = rng(39, 39) }), nil, nil, api.ErrConflict},
		{"0 weighs 91", withLoad(func(l *api.Load) { l.Weighed[0].Kilos = rng(91, 91) }), nil, nil, api.ErrConflict},
		{"1 weighs more than 0", withLoad(func(l *api.Load) { l.Weighed[0].Kilos, l.Weighed[1].Kilos = rng(40, 42), rng(43, 50) }), nil, nil, api.ErrConflict},
		{"not weighed", withLoad(func(l *api.Load) { l.Weighed = nil }), [][]api.Range{{rng(30, 50), rng(10, 40)}, {rng(25, 50), rng(0, 3)}, {rng(0, 5), rng(7, 40)}}, []api.Range{rng(40, 90), rng(25, 53), rng(7, 45)}, api.OK},
		{"the rest weighed", withLoad(func(l *api.Load) { l.Weighed = []api.Weighed{{Fraction: 2, Kilos: rng(44, 90)}} }), [][]api.Range{{rng(30, 50), rng(39, 40)}, {rng(25, 46), rng(0, 1)}, {rng(4, 5), rng(39, 40)}}, []api.Range{rng(69, 90), rng(25, 46), rng(44, 45)}, api.OK},
		{"one material", one(func(l *api.Load) {}), [][]api.Range{{rng(5, 9)}}, []api.Range{rng(5, 9)}, api.OK},
		{"one material, weighed", one(func(l *api.Load) { l.Weighed = []api.Weighed{{Kilos: rng(0, 6)}} }), [][]api.Range{{rng(5, 6)}}, []api.Range{rng(5, 6)}, api.OK},
		{"one material, all astray", one(func(l *api.Load) { l.Splits = []api.Split{{Pulls: []bool{true}, Wrong: []int{100000}}} }), [][]api.Range{{rng(5, 9)}, {rng(0, 9)}, {rng(0, 9)}}, []api.Range{rng(5, 9), rng(0, 9), rng(0, 9)}, api.OK},
		{"the widest load", big(), [][]api.Range{{all, all, all, all}, {all, all, {}, {}}, {{}, {}, all, all}}, []api.Range{rng(0, 400000), rng(0, 200000), rng(0, 200000)}, api.OK},
		{"what is weighed is known across fractions", api.Load{
			Stuffs: []api.Range{rng(10, 20), rng(5, 5)},
			Splits: []api.Split{
				{Pulls: []bool{true, false}, Wrong: []int{4, 0}},
				{Of: 2, Pulls: []bool{false, true}, Wrong: []int{1, 2}},
			},
			Weighed: []api.Weighed{{Fraction: 4, Kilos: rng(6, 6)}, {Fraction: 1, Kilos: rng(0, 8)}},
		}, [][]api.Range{{rng(10, 12), rng(5, 5)}, {rng(6, 8), rng(0, 0)}, {rng(4, 4), rng(5, 5)}, {rng(0, 0), rng(3, 3)}, {rng(4, 4), rng(2, 2)}}, []api.Range{rng(15, 17), rng(6, 8), rng(9, 9), rng(3, 3), rng(6, 6)}, api.OK},
	} {
		holds, e := mix.Holds(c.l)
		if e != c.want || !sameHolds(holds, c.holds) {
			t.Errorf("%s: Holds %v %d", c.name, holds, e)
		}
		weights, e := mix.Weights(c.l)
		if e != c.want || !slices.Equal(weights, c.weights) {
			t.Errorf("%s: Weights %v %d", c.name, weights, e)
		}
	}
}

// TestP2_2Pure: Pure, with all verdicts and all errors in their order.
func TestP2_2Pure(t *testing.T) {
	conflict := withLoad(func(l *api.Load) { l.Weighed[1].Kilos = rng(55, 60) })
	for _, c := range []struct {
		name                   string
		l                      api.Load
		fraction, stuff, limit int
		want                   int
		e                      api.Errno
	}{
		{"the greatest", loadL(), 1, 1, 3, api.Always, api.OK},
		{"below the greatest", loadL(), 1, 1, 2, api.Unsure, api.OK},
		{"MaxKilos", loadL(), 0, 0, 100000, api.Always, api.OK},
		{"the rest, 5", loadL(), 2, 0, 5, api.Always, api.OK},
		{"the rest, 4", loadL(), 2, 0, 4, api.Unsure, api.OK},
		{"the rest, 0", loadL(), 2, 0, 0, api.Unsure, api.OK},
		{"below the least", loadL(), 0, 1, 22, api.Nowhere, api.OK},
		{"the least", loadL(), 0, 1, 23, api.Unsure, api.OK},
		{"the greatest of all", loadL(), 0, 1, 33, api.Always, api.OK},
		{"fraction -1", conflict, -1, 0, -1, 0, api.ErrUnknown},
		{"fraction 3", conflict, 3, 0, -1, 0, api.ErrUnknown},
		{"stuff -1", conflict, 0, -1, -1, 0, api.ErrUnknown},
		{"stuff 2", conflict, 0, 2, 100001, 0, api.ErrUnknown},
		{"limit -1", conflict, 0, 0, -1, 0, api.ErrValue},
		{"limit 100001", conflict, 0, 0, 100001, 0, api.ErrValue},
		{"not possible", conflict, 0, 0, 100000, 0, api.ErrConflict},
	} {
		if is, e := mix.Pure(c.l, c.fraction, c.stuff, c.limit); is != c.want || e != c.e {
			t.Errorf("%s: %d %d, not %d %d", c.name, is, e, c.want, c.e)
		}
	}
}

// terms returns terms of dirt: numbers are Above and Times of one after the other.
func terms(numbers ...int) []api.Term {
	var list []api.Term
	for i := 0; i < len(numbers); i += 2 {
		list = append(list, api.Term{Above: numbers[i], Times: numbers[i+1]})
	}
	return list
}

// TestP2_3Paid: Paid, at ordinary weights and at the edges, and all errors in their order.
func TestP2_3Paid(t *testing.T) {
	many := make([]api.Term, 5)
	for _, c := range []struct {
		name  string
		gross int
		dirt  api.Range
		terms []api.Term
		want  api.Range
		e     api.Errno
	}{
		{"above 5: 2", 100, rng(4, 8), terms(5, 2), rng(94, 100), api.OK},
		{"and above 7: 10", 100, rng(4, 8), terms(5, 2, 7, 10), rng(84, 100), api.OK},
		{"no more dirt than weight", 10, rng(4, 20), terms(5, 2), rng(0, 10), api.OK},
		{"no more dirt than weight, some paid", 10, rng(4, 20), terms(5, 1), rng(5, 10), api.OK},
		{"dirt is all the weight", 10, rng(10, 10), terms(0, 1), rng(0, 0), api.OK},
		{"dirt is just Above", 10, rng(5, 5), terms(5, 20), rng(10, 10), api.OK},
		{"without terms", 10, rng(0, 10), nil, rng(10, 10), api.OK},
		{"deducted as a whole", 10, rng(6, 9), terms(0, 20), rng(0, 0), api.OK},
		{"Times 0", 10, rng(0, 10), terms(0, 0, 9, 1), rng(9, 10), api.OK},
		{"four terms", 1000, rng(0, 40), terms(0, 1, 10, 1, 20, 1, 30, 2), rng(890, 1000), api.OK},
		{"nothing", 0, rng(0, 5), terms(0, 20), rng(0, 0), api.OK},
		{"the most", 100000, rng(0, 100000), terms(0, 1), rng(0, 100000), api.OK},
		{"Above MaxKilos", 100000, rng(0, 100000), terms(100000, 20), rng(100000, 100000), api.OK},
		{"gross -1", -1, rng(5, 4), many, rng(0, 0), api.ErrValue},
		{"gross 100001", 100001, rng(5, 4), many, rng(0, 0), api.ErrValue},
		{"dirt from -1", 1, rng(-1, 4), many, rng(0, 0), api.ErrValue},
		{"dirt to 100001", 1, rng(2, 100001), many, rng(0, 0), api.ErrValue},
		{"dirt 5..4", 1, rng(5, 4), many, rng(0, 0), api.ErrOrder},
		{"more dirt than weight", 10, rng(11, 12), many, rng(0, 0), api.ErrConflict},
		{"five terms", 10, rng(10, 12), many, rng(0, 0), api.ErrMany},
		{"Above -1", 10, rng(0, 1), terms(-1, 1), rng(0, 0), api.ErrValue},
		{"Above 100001", 10, rng(0, 1), terms(100001, 1), rng(0, 0), api.ErrValue},
		{"Times -1", 10, rng(0, 1), terms(0, -1), rng(0, 0), api.ErrValue},
		{"Times 21", 10, rng(0, 1), terms(0, 20, 0, 21), rng(0, 0), api.ErrValue},
		{"equal Above", 10, rng(0, 1), terms(5, 1, 5, 2), rng(0, 0), api.ErrOrder},
		{"the first term first", 10, rng(0, 1), terms(5, 1, 4, 2, -1, 0), rng(0, 0), api.ErrOrder},
	} {
		if paid, e := mix.Paid(c.gross, c.dirt, c.terms); paid != c.want || e != c.e {
			t.Errorf("%s: %v %d, not %v %d", c.name, paid, e, c.want, c.e)
		}
	}
}

// TestRules: no argument is changed or kept, and no result shares memory (R2, R4).
func TestRules(t *testing.T) {
	l, list := loadL(), terms(5, 2, 7, 10)
	l.Splits = append(l.Splits, again())
	kept := copyLoad(l)
	holds, _ := mix.Holds(l)
	weights, _ := mix.Weights(l)
	text, _ := mix.Ticket(l)
	mix.Pure(l, 3, 1, 2)
	mix.Paid(100, rng(4, 8), list)
	if !sameLoad(l, kept) || !slices.Equal(list, terms(5, 2, 7, 10)) {
		t.Error("an argument was changed")
	}
	for fraction := range len(holds) - 1 {
		next := holds[fraction+1][0]
		// If the rows were one list, this would write over the next row.
		_ = append(holds[fraction], rng(-1, -1))
		if holds[fraction+1][0] != next {
			t.Error("two rows share memory")
		}
	}
	weights[0], holds[0][0] = rng(-1, -1), rng(-1, -1)
	if first(mix.Weights(l))[0] == weights[0] || first(mix.Holds(l))[0][0] == holds[0][0] {
		t.Error("two results share memory")
	}
	read, _, _ := mix.Parse(text)
	read.Stuffs[0], read.Splits[0].Wrong[0], read.Splits[0].Pulls[0], read.Weighed[0].Fraction = rng(0, 0), 9, false, 9
	other, _, _ := mix.Parse(text)
	if !sameLoad(other, kept) || !sameLoad(l, kept) {
		t.Error("a result shares memory")
	}
}

// wild returns a random number, often one at a bound or far beyond.
func wild(r *rand.Rand) int {
	list := []int{0, 1, -1, 2, 5, 8, 9, 50, 99999, 100000, 100001, math.MaxInt, math.MinInt, math.MaxInt32, math.MinInt32}
	return list[r.Intn(len(list))]
}

// TestP1: no call panics, whatever the arguments are.
func TestP1(t *testing.T) {
	r := rand.New(rand.NewSource(1))
	for range 20000 {
		var l api.Load
		for range r.Intn(6) {
			l.Stuffs = append(l.Stuffs, rng(wild(r), wild(r)))
		}
		for range r.Intn(6) {
			split := api.Split{Of: wild(r)}
			for range r.Intn(6) {
				split.Pulls, split.Wrong = append(split.Pulls, r.Intn(2) == 0), append(split.Wrong, wild(r))
			}
			l.Splits = append(l.Splits, split)
		}
		for range r.Intn(4) {
			l.Weighed = append(l.Weighed, api.Weighed{Fraction: wild(r), Kilos: rng(wild(r), wild(r))})
		}
		var terms []api.Term
		for range r.Intn(6) {
			terms = append(terms, api.Term{Above: wild(r), Times: wild(r)})
		}
		mix.Check(l)
		mix.Holds(l)
		mix.Weights(l)
		mix.Pure(l, wild(r), wild(r), wild(r))
		mix.Pure(loadL(), wild(r), wild(r), wild(r))
		mix.Paid(wild(r), rng(wild(r), wild(r)), terms)
		mix.Ticket(l)
	}
}
