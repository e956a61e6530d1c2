package pay_test

import (
	"math"
	"math/rand"
	"slices"
	"strings"
	"testing"

	"swarf/api"
	"swarf/pay"
)

const a, n, u = api.Always, api.Nowhere, api.Unsure

// tillErrors are tills with their first errors, in the chapter's order: each one has an error that comes later, too, where there is one.
var tillErrors = []struct {
	name   string
	change func(t *api.Till)
	want   api.Errno
}{
	{"as it is", func(t *api.Till) {}, api.OK},
	{"without names", func(t *api.Till) { t.Names, t.Limit = 0, -1 }, api.ErrFew},
	{"Names -1", func(t *api.Till) { t.Names, t.Limit = -1, -1 }, api.ErrFew},
	{"1 name", func(t *api.Till) { t.Names, t.Links, t.Dues = 1, nil, nil }, api.OK},
	{"8 names", func(t *api.Till) { t.Names = 8 }, api.OK},
	{"9 names", func(t *api.Till) { t.Names, t.Window = 9, 0 }, api.ErrMany},
	{"Limit -1", func(t *api.Till) { t.Limit, t.Links = -1, make([]api.Link, 11) }, api.ErrValue},
	{"Limit 0", func(t *api.Till) { t.Limit = 0 }, api.OK},
	{"Limit 100000000", func(t *api.Till) { t.Limit = 100000000 }, api.OK},
	{"Limit 100000001", func(t *api.Till) { t.Limit, t.Links = 100000001, make([]api.Link, 11) }, api.ErrValue},
	{"Window 0", func(t *api.Till) { t.Window, t.Links = 0, make([]api.Link, 11) }, api.ErrValue},
	{"Window 1", func(t *api.Till) { t.Window = 1 }, api.OK},
	{"Window 30", func(t *api.Till) { t.Window = 30 }, api.OK},
	{"Window 31", func(t *api.Till) { t.Window, t.Links = 31, make([]api.Link, 11) }, api.ErrValue},
	{"no links", func(t *api.Till) { t.Links = nil }, api.OK},
	{"10 links", func(t *api.Till) {
		t.Names, t.Links = 5, nil
		for a := range 5 {
			for b := range a {
				t.Links = append(t.Links, maybe(a, b))
			}
		}
	}, api.OK},
	{"11 links", func(t *api.Till) { t.Links, t.Dues = slices.Repeat([]api.Link{{A: -1}}, 11), make([]api.Due, 21) }, api.ErrMany},
	{"the first link first", func(t *api.Till) { t.Links = []api.Link{maybe(1, 1), maybe(4, 0)} }, api.ErrForm},
	{"A -1", func(t *api.Till) { t.Links[0], t.Links[1].B = maybe(-1, -1), 1 }, api.ErrUnknown},
	{"A 4", func(t *api.Till) { t.Links[1] = maybe(4, 4) }, api.ErrUnknown},
	{"B -1", func(t *api.Till) { t.Links[1], t.Dues = maybe(0, -1), make([]api.Due, 21) }, api.ErrUnknown},
	{"B 4", func(t *api.Till) { t.Links[1], t.Dues = maybe(0, 4), make([]api.Due, 21) }, api.ErrUnknown},
	{"B 3", func(t *api.Till) { t.Links[1] = maybe(0, 3) }, api.OK},
	{"a link of one name", func(t *api.Till) { t.Links = []api.Link{maybe(2, 2), maybe(2, 2)} }, api.ErrForm},
	{"a link 2 1", func(t *api.Till) { t.Links = append(t.Links, maybe(2, 1)) }, api.ErrRepeat},
	{"a link 1 2", func(t *api.Till) { t.Links, t.Dues = append(t.Links, sure(1, 2)), make([]api.Due, 21) }, api.ErrRepeat},
	{"a link 0 2", func(t *api.Till) { t.Links = append(t.Links, sure(0, 2)) }, api.OK},
	{"no dues", func(t *api.Till) { t.Dues = nil }, api.OK},
	{"20 dues", func(t *api.Till) { t.Dues = make([]api.Due, 20) }, api.OK},
	{"21 dues", func(t *api.Till) { t.Dues = slices.Repeat([]api.Due{bank(-1, 0, 0)}, 21) }, api.ErrMany},
	{"the first due first", func(t *api.Till) { t.Dues[3].Cents, t.Dues[4].Day = -1, 0 }, api.ErrValue},
	{"Day -1", func(t *api.Till) { t.Dues[0] = bank(-1, 4, -1) }, api.ErrValue},
	{"Day -1 later", func(t *api.Till) { t.Dues[4] = bank(-1, 4, -1) }, api.ErrValue},
	{"Day 4000", func(t *api.Till) { t.Dues[4].Day = 4000 }, api.OK},
	{"Day 4001", func(t *api.Till) { t.Dues[4] = bank(4001, 4, -1) }, api.ErrValue},
	{"a due on 3", func(t *api.Till) { t.Dues = append(t.Dues, cash(3, 4, 0)) }, api.ErrOrder},
	{"a due on 4", func(t *api.Till) { t.Dues = append(t.Dues, cash(4, 3, 0)) }, api.OK},
	{"after a due that is not in cash", func(t *api.Till) { t.Dues = append(t.Dues, bank(9, 0, 0), bank(8, 4, -1)) }, api.ErrOrder},
	{"Name -1", func(t *api.Till) { t.Dues[4] = cash(4, -1, -1) }, api.ErrUnknown},
	{"Name 4", func(t *api.Till) { t.Dues[4] = cash(4, 4, -1) }, api.ErrUnknown},
	{"Cents -1", func(t *api.Till) { t.Dues[2] = bank(1, 3, -1) }, api.ErrValue},
	{"Cents 0", func(t *api.Till) { t.Dues[2].Cents = 0 }, api.OK},
	{"Cents 100000000", func(t *api.Till) { t.Dues[2].Cents = 100000000 }, api.OK},
	{"Cents 100000001", func(t *api.Till) { t.Dues[2].Cents = 100000001 }, api.ErrValue},
	{"numbers far above", func(t *api.Till) { t.Dues[4] = bank(math.MaxInt, math.MaxInt, math.MaxInt) }, api.ErrValue},
	{"numbers far below", func(t *api.Till) { t.Names, t.Limit, t.Window = math.MinInt, math.MinInt, math.MinInt }, api.ErrFew},
}

// TestP8_1Check: Check, and all functions that return its error first.
func TestP8_1Check(t *testing.T) {
	for _, c := range tillErrors {
		x := withT(c.change)
		if e := pay.Check(x); e != c.want {
			t.Errorf("%s: Check %d, not %d", c.name, e, c.want)
		}
		if c.want == api.OK {
			continue
		}
		same, e1 := pay.Same(x, 9, -1)
		law, e2 := pay.Lawful(x)
		perhaps, surely, e3 := pay.Breach(x)
		room, e4 := pay.Room(x, -1, -1)
		soonest, e5 := pay.Soonest(x, 9, -1, -1)
		text, e6 := pay.Account(x)
		for i, e := range []api.Errno{e1, e2, e3, e4, e5, e6} {
			if e != c.want {
				t.Errorf("%s: function %d returns %d, not %d", c.name, i, e, c.want)
			}
		}
		if same != 0 || law != 0 || perhaps != 0 || surely != 0 || room != 0 || soonest != 0 || text != "" {
			t.Errorf("%s: results beside an error", c.name)
		}
	}
}

// linked returns T with other links.
func linked(links ...api.Link) api.Till { return withT(func(t *api.Till) { t.Links = links }) }

// TestP8_1Same: names that surely, perhaps, or in no truth are one person.
func TestP8_1Same(t *testing.T) {
	chain := linked(sure(3, 2), maybe(0, 1), sure(1, 2))
	round := linked(maybe(0, 1), sure(2, 1), sure(0, 2))
	long := withT(func(t *api.Till) {
		t.Names = 8
		t.Links = []api.Link{sure(0, 7), sure(6, 1), sure(7, 6), sure(2, 5), sure(4, 3), sure(1, 2), sure(5, 4)}
	})
	for _, c := range []struct {
		name string
		t    api.Till
		a, b int
		want int
		e    api.Errno
	}{
		{"by a sure link", tillT(1000), 0, 1, a, api.OK},
		{"the other way round", tillT(1000), 1, 0, a, api.OK},
		{"by a link that may hold", tillT(1000), 1, 2, u, api.OK},
		{"through another name", tillT(1000), 0, 2, u, api.OK},
		{"not at all", tillT(1000), 0, 3, n, api.OK},
		{"a name with itself", tillT(1000), 2, 2, a, api.OK},
		{"a name without links with itself", tillT(1000), 3, 3, a, api.OK},
		{"through sure links", chain, 1, 3, a, api.OK},
		{"through one that may hold", chain, 3, 0, u, api.OK},
		{"on a sure way round", round, 0, 1, a, api.OK},
		{"through all names", long, 0, 3, a, api.OK},
		{"through all names, back", long, 3, 0, a, api.OK},
		{"without links", linked(), 0, 1, n, api.OK},
		{"b is no name", tillT(1000), 0, 4, 0, api.ErrUnknown},
		{"a is no name", tillT(1000), 4, 0, 0, api.ErrUnknown},
		{"a below 0", tillT(1000), -1, -1, 0, api.ErrUnknown},
		{"b below 0", tillT(1000), 0, -1, 0, api.ErrUnknown},
		{"far away", tillT(1000), math.MaxInt, math.MinInt, 0, api.ErrUnknown},
	} {
		if v, e := pay.Same(c.t, c.a, c.b); v != c.want || e != c.e {
			t.Errorf("%s: %d %d, not %d %d", c.name, v, e, c.want, c.e)
		}
	}
}

// paidTo returns a till of two names that perhaps are one person, with Limit 10 and Window 2.
func paidTo(dues ...api.Due) api.Till {
	return api.Till{Names: 2, Limit: 10, Window: 2, Links: []api.Link{maybe(0, 1)}, Dues: dues}
}

// TestP8_1Law: whether the law is kept, and which due breaks it perhaps, and surely.
func TestP8_1Law(t *testing.T) {
	for _, c := range []struct {
		name                    string
		t                       api.Till
		lawful, perhaps, surely int
	}{
		{"T", tillT(1000), u, 3, -1},
		{"T2", tillT(1500), a, -1, -1},
		{"Limit 1200", tillT(1200), a, -1, -1},
		{"Limit 1199", tillT(1199), u, 3, -1},
		{"Limit 799", tillT(799), n, 1, 4},
		{"Limit 0", tillT(0), n, 0, 0},
		{"both links sure", withT(func(t *api.Till) { t.Links[1].Sure = true }), n, 3, 3},
		{"no links", withT(func(t *api.Till) { t.Links = nil }), a, -1, -1},
		{"no dues", paidTo(), a, -1, -1},
		{"all that the law allows on a day", paidTo(cash(3, 0, 4), cash(3, 0, 6)), a, -1, -1},
		{"a cent more", paidTo(cash(3, 0, 4), cash(3, 0, 7)), n, 1, 1},
		{"a cent more in one due", paidTo(cash(3, 0, 11)), n, 0, 0},
		{"a cent more not in cash", paidTo(cash(3, 0, 10), bank(3, 0, 1)), a, -1, -1},
		{"to perhaps one person", paidTo(cash(3, 0, 4), cash(3, 1, 7)), u, 1, -1},
		{"on days in a window", paidTo(cash(3, 0, 4), cash(4, 0, 7)), n, 1, 1},
		{"on days not in a window", paidTo(cash(3, 0, 4), cash(5, 0, 7)), a, -1, -1},
		{"in the second window", paidTo(cash(3, 0, 4), cash(4, 0, 6), cash(5, 0, 5)), n, 2, 2},
		{"first perhaps, then surely", paidTo(cash(0, 0, 10), cash(1, 1, 1), cash(4, 1, 9), cash(5, 1, 2), cash(5, 1, 9)), n, 1, 3},
		{"nothing is paid", withT(func(t *api.Till) { t.Limit, t.Dues = 0, []api.Due{cash(0, 0, 0), bank(0, 0, 5)} }), a, -1, -1},
		{"on the last days", paidTo(cash(3999, 1, 5), cash(4000, 1, 6)), n, 1, 1},
		{"the greatest numbers", api.Till{Names: 8, Limit: 100000000, Window: 30, Dues: slices.Repeat([]api.Due{cash(4000, 7, 100000000)}, 20)}, n, 1, 1},
		{"in the longest window", api.Till{Names: 1, Limit: 1, Window: 30, Dues: []api.Due{cash(0, 0, 1), cash(29, 0, 1)}}, n, 1, 1},
		{"just after the longest window", api.Till{Names: 1, Limit: 1, Window: 30, Dues: []api.Due{cash(0, 0, 1), cash(30, 0, 1)}}, a, -1, -1},
	} {
		if v, e := pay.Lawful(c.t); v != c.lawful || e != api.OK {
			t.Errorf("%s: Lawful %d %d, not %d", c.name, v, e, c.lawful)
		}
		if p, s, e := pay.Breach(c.t); p != c.perhaps || s != c.surely || e != api.OK {
			t.Errorf("%s: Breach %d %d %d, not %d %d", c.name, p, s, e, c.perhaps, c.surely)
		}
	}
}

// TestP8_2Room: how much can be paid, and errors in their order.
func TestP8_2Room(t *testing.T) {
	full := with(tillT(1500), cash(4, 0, 700))
	twenty := paidTo(slices.Repeat([]api.Due{bank(1, 0, 1)}, 20)...)
	late := withT(func(t *api.Till) { t.Limit, t.Dues[4] = 1500, bank(9, 0, 5) })
	for _, c := range []struct {
		name      string
		t         api.Till
		who, when int
		want      int
		e         api.Errno
	}{
		{"T", tillT(1000), 0, 4, 0, api.ErrLimit},
		{"T2", tillT(1500), 0, 4, 700, api.OK},
		{"to surely the same person", tillT(1500), 1, 4, 700, api.OK},
		{"to perhaps the same person", tillT(1500), 2, 4, 700, api.OK},
		{"to another person", tillT(1500), 3, 4, 1500, api.OK},
		{"a day later", tillT(1500), 2, 5, 1000, api.OK},
		{"on the last day of the window", tillT(1500), 2, 6, 1000, api.OK},
		{"after the window", tillT(1500), 2, 7, 1500, api.OK},
		{"on the last day", tillT(1500), 0, 4000, 1500, api.OK},
		{"nothing is left", full, 2, 4, 0, api.OK},
		{"a due more, though there are 20", twenty, 0, 1, 10, api.OK},
		{"after a due that is not in cash", late, 0, 9, 1500, api.OK},
		{"before a due that is not in cash", late, 0, 8, 0, api.ErrLate},
		{"before the only due", paidTo(cash(3, 0, 4)), 1, 2, 0, api.ErrLate},
		{"on the day of the only due", paidTo(cash(3, 0, 4)), 1, 3, 6, api.OK},
		{"no dues", paidTo(), 1, 0, 10, api.OK},
		{"Limit 0", withT(func(t *api.Till) { t.Limit, t.Dues = 0, nil }), 1, 0, 0, api.OK},
		{"the law is surely broken", tillT(0), 3, 4, 0, api.ErrLimit},
		{"too late", tillT(1500), 0, 3, 0, api.ErrLate},
		{"too late, and the law is broken", tillT(1000), 0, 3, 0, api.ErrLate},
		{"day 4001", tillT(1000), 0, 4001, 0, api.ErrValue},
		{"day -1", tillT(1000), 0, -1, 0, api.ErrValue},
		{"no name", tillT(1000), 4, -1, 0, api.ErrUnknown},
		{"name -1", tillT(1500), -1, 4, 0, api.ErrUnknown},
		{"far away", tillT(1500), 0, math.MinInt, 0, api.ErrValue},
	} {
		if cents, e := pay.Room(c.t, c.who, c.when); cents != c.want || e != c.e {
			t.Errorf("%s: %d %d, not %d %d", c.name, cents, e, c.want, c.e)
		}
	}
}

// TestP8_2Soonest: the first day by which so much can be paid, and errors in their order.
func TestP8_2Soonest(t *testing.T) {
	twenty := paidTo(slices.Repeat([]api.Due{cash(1, 0, 0)}, 20)...)
	none := api.Till{Names: 1, Window: 4}
	single := api.Till{Names: 1, Limit: 10, Window: 1}
	for _, c := range []struct {
		name             string
		t                api.Till
		who, when, cents int
		want             int
		e                api.Errno
	}{
		{"as much as there is room", tillT(1500), 0, 4, 700, 4, api.OK},
		{"a cent more", tillT(1500), 0, 4, 701, 5, api.OK},
		{"as much as by 5", tillT(1500), 0, 4, 1000, 5, api.OK},
		{"a cent more than by 5", tillT(1500), 0, 4, 1001, 7, api.OK},
		{"2000", tillT(1500), 0, 4, 2000, 7, api.OK},
		{"as much as by 7", tillT(1500), 0, 4, 2200, 7, api.OK},
		{"a cent more than by 7", tillT(1500), 0, 4, 2201, 8, api.OK},
		{"to perhaps the same person", tillT(1500), 2, 4, 701, 5, api.OK},
		{"to another person", tillT(1500), 3, 4, 1500, 4, api.OK},
		{"from a later day on", tillT(1500), 0, 6, 1001, 7, api.OK},
		{"no cents", tillT(1500), 0, 5, 0, 5, api.OK},
		{"no cents where nothing may be paid", none, 0, 7, 0, 7, api.OK},
		{"on the last day", single, 0, 4000, 10, 4000, api.OK},
		{"no cents on the last day", single, 0, 4000, 0, 4000, api.OK},
		{"up to the last day", single, 0, 3991, 100, 4000, api.OK},
		{"a cent more than up to the last day", single, 0, 3991, 101, 0, api.ErrLate},
		{"on all days", single, 0, 0, 40010, 4000, api.OK},
		{"a cent more than on all days", single, 0, 0, 40011, 0, api.ErrLate},
		{"100000000", tillT(1500), 0, 4, 100000000, 0, api.ErrLate},
		{"100000000 at once", withT(func(t *api.Till) { t.Limit, t.Dues = 100000000, nil }), 0, 4, 100000000, 4, api.OK},
		{"nothing may be paid", none, 0, 0, 1, 0, api.ErrLate},
		{"more dues than a till has", twenty, 1, 1, 31, 7, api.OK},
		{"the law is broken", tillT(1000), 0, 4, 1, 0, api.ErrLimit},
		{"the law is broken, no cents", tillT(1000), 0, 4, 0, 0, api.ErrLimit},
		{"too late", tillT(1000), 0, 3, 1, 0, api.ErrLate},
		{"before the only due", paidTo(cash(3, 0, 4)), 1, 2, 1, 0, api.ErrLate},
		{"too late, no cents", tillT(1500), 0, 3, 0, 0, api.ErrLate},
		{"cents -1", tillT(1000), 0, 3, -1, 0, api.ErrValue},
		{"cents 100000001", tillT(1000), 0, 3, 100000001, 0, api.ErrValue},
		{"day -1", tillT(1000), 0, -1, 1, 0, api.ErrValue},
		{"day 4001", tillT(1500), 0, 4001, 0, 0, api.ErrValue},
		{"no name", tillT(1000), 4, -1, -1, 0, api.ErrUnknown},
		{"name -1", tillT(1000), -1, -1, -1, 0, api.ErrUnknown},
	} {
		if day, e := pay.Soonest(c.t, c.who, c.when, c.cents); day != c.want || e != c.e {
			t.Errorf("%s: %d %d, not %d %d", c.name, day, e, c.want, c.e)
		}
	}
}

// more returns L with one tag more.
func more(code string, hold int) []api.Tag { return append(listL(), api.Tag{Code: code, Hold: hold}) }

// TestP8_3Match: tags that fit, the verdict, until when a thing is held that comes on the day 100, and errors in their order.
func TestP8_3Match(t *testing.T) {
	l := listL()
	for _, c := range []struct {
		name    string
		list    []api.Tag
		reads   []string
		verdict int
		tags    []int
		until   int
	}{
		{"all is read", l, []string{"AB12"}, a, []int{0}, 110},
		{"a place is not", l, []string{"AB?2"}, u, []int{0}, 110},
		{"two tags fit", l, []string{"A???"}, u, []int{0, 1}, 110},
		{"two reads, of which one tells more", l, []string{"AB??", "??9?"}, u, []int{1}, 103},
		{"two reads that tell all", l, []string{"AB??", "??99"}, a, []int{1}, 103},
		{"four reads", l, []string{"????", "A???", "AB??", "?B12"}, a, []int{0}, 110},
		{"nothing is read", l, []string{"????", "????"}, u, []int{0, 1}, 110},
		{"nothing is read of two places", l, []string{"??"}, u, []int{2}, 105},
		{"no code is so long", l, []string{"???"}, n, nil, -1},
		{"a code that is longer", l, []string{"AB12?"}, n, nil, -1},
		{"another code", l, []string{"XY12"}, n, nil, -1},
		{"another code, read in part", l, []string{"?Y??"}, n, nil, -1},
		{"without tags", nil, []string{"A"}, n, nil, -1},
		{"the longest code", more("ABCDEFGH", 60), []string{"ABCD????", "????EFGH"}, a, []int{3}, 160},
		{"the first and the last sign", more("A0Z9", 0), []string{"A0Z9"}, a, []int{3}, 100},
		{"of three the longest hold", []api.Tag{{Code: "A", Hold: 1}, {Code: "B", Hold: 3}, {Code: "C", Hold: 2}}, []string{"?"}, u, []int{0, 1, 2}, 103},
	} {
		v, tags, e := pay.Match(c.list, c.reads)
		if v != c.verdict || !slices.Equal(tags, c.tags) || e != api.OK {
			t.Errorf("%s: %d %v %d, not %d %v", c.name, v, tags, e, c.verdict, c.tags)
		}
		if until, e := pay.Held(c.list, c.reads, 100); until != c.until || e != api.OK {
			t.Errorf("%s: held until %d %d, not %d", c.name, until, e, c.until)
		}
	}
}

// TestP8_3Errors: lists, reads and days with errors, in their order.
func TestP8_3Errors(t *testing.T) {
	l := listL()
	for _, c := range []struct {
		name  string
		list  []api.Tag
		reads []string
		want  api.Errno
	}{
		{"13 tags", make([]api.Tag, 13), nil, api.ErrMany},
		{"the first tag first", append([]api.Tag{{Code: "A", Hold: -1}}, make([]api.Tag, 3)...), nil, api.ErrValue},
		{"an empty code", more("", -1), nil, api.ErrForm},
		{"a code of 9 bytes", more("ABCDEFGHI", -1), nil, api.ErrForm},
		{"a small letter", more("Aa", -1), nil, api.ErrForm},
		{"a question mark", more("A?", -1), nil, api.ErrForm},
		{"a blank", more("A ", -1), nil, api.ErrForm},
		{"before 0", more("/", 0), nil, api.ErrForm},
		{"after 9", more(":", 0), nil, api.ErrForm},
		{"before A", more("@", 0), nil, api.ErrForm},
		{"after Z", more("[", 0), nil, api.ErrForm},
		{"a letter of two bytes", more("Ä", 0), nil, api.ErrForm},
		{"Hold -1", more("ZZ", -1), nil, api.ErrValue},
		{"Hold 61", more("ZZ", 61), nil, api.ErrValue},
		{"the same code", more("ZZ", 9), nil, api.ErrRepeat},
		{"no reads", l, nil, api.ErrFew},
		{"5 reads", l, make([]string, 5), api.ErrMany},
		{"an empty read", l, []string{""}, api.ErrForm},
		{"an empty read later", l, []string{"A", ""}, api.ErrForm},
		{"a read of 9 bytes", l, []string{"?????????"}, api.ErrForm},
		{"a small letter in a read", l, []string{"AB1a"}, api.ErrForm},
		{"a star in a read", l, []string{"AB1*"}, api.ErrForm},
		{"before a question mark", l, []string{"AB1>"}, api.ErrForm},
		{"a shorter read", l, []string{"AB12", "AB1"}, api.ErrForm},
		{"a longer read", l, []string{"AB12", "AB12?"}, api.ErrForm},
		{"a shorter read after a conflict", l, []string{"A?", "B?", "A"}, api.ErrForm},
		{"reads that contradict each other", l, []string{"A?", "B?"}, api.ErrConflict},
		{"the first and the last one", l, []string{"A?", "??", "?B", "?C"}, api.ErrConflict},
		{"of a code that is not listed", nil, []string{"A", "B"}, api.ErrConflict},
	} {
		v, tags, e := pay.Match(c.list, c.reads)
		until, f := pay.Held(c.list, c.reads, -1)
		if e != c.want || f != c.want {
			t.Errorf("%s: %d %d, not %d", c.name, e, f, c.want)
		}
		if v != 0 || tags != nil || until != 0 {
			t.Errorf("%s: results beside an error", c.name)
		}
	}
	twelve := make([]api.Tag, 12)
	for i := range twelve {
		twelve[i] = api.Tag{Code: strings.Repeat("A", i%8+1) + "Q"[:i/8], Hold: 5 * i}
	}
	if v, tags, e := pay.Match(twelve, []string{"AA", "AA", "A?", "?A"}); v != a || !slices.Equal(tags, []int{1}) || e != api.OK {
		t.Error(v, tags, e)
	}
}

// TestP8_3Held: the days on which a thing comes.
func TestP8_3Held(t *testing.T) {
	for _, c := range []struct {
		read      string
		day, want int
		e         api.Errno
	}{
		{"AB12", 0, 10, api.OK},
		{"AB12", 4000, 4010, api.OK},
		{"AB12", 4001, 0, api.ErrValue},
		{"AB12", -1, 0, api.ErrValue},
		{"XY12", 4000, -1, api.OK},
		{"XY12", 4001, 0, api.ErrValue},
		{"XY12", -1, 0, api.ErrValue},
		{"XY12", math.MaxInt, 0, api.ErrValue},
	} {
		if until, e := pay.Held(listL(), []string{c.read}, c.day); until != c.want || e != c.e {
			t.Errorf("%s on %d: %d %d, not %d %d", c.read, c.day, until, e, c.want, c.e)
		}
	}
}

// TestP8_4Value: what kilograms are worth.
func TestP8_4Value(t *testing.T) {
	f := fixesF()
	for _, c := range []struct {
		name  string
		fixes []api.Fix
		day   int
		kilos api.Range
		share int
		want  api.Range
	}{
		{"on the day of a fix", f, 10, rng(1000, 1500), 900, rng(180000, 270000)},
		{"a day later", f, 11, rng(1000, 1500), 900, rng(180000, 270000)},
		{"on the day of the next fix", f, 12, rng(1000, 1500), 900, rng(189000, 283500)},
		{"on the last day", f, 4000, rng(0, 1), 1000, rng(0, 210)},
		{"rounded down", f, 10, rng(1, 3), 7, rng(1, 4)},
		{"just below a cent", []api.Fix{{Cents: 999999}}, 0, rng(1, 1), 1, rng(0, 0)},
		{"just a cent", []api.Fix{{Cents: 1000000}}, 0, rng(1, 1), 1, rng(1, 1)},
		{"no share", f, 10, rng(0, 1000000), 0, rng(0, 0)},
		{"no price to pay", []api.Fix{{Cents: 5}, {Day: 1}}, 1, rng(0, 1000000), 1000, rng(0, 0)},
		{"the greatest numbers", []api.Fix{{Cents: 100000000}}, 0, rng(1000000, 1000000), 1000, rng(100000000000, 100000000000)},
		{"of 20 fixes the last one", twentyFixes(), 4000, rng(0, 1000), 1000, rng(0, 19)},
		{"of 20 fixes the first one", twentyFixes(), 0, rng(1000, 1000), 1000, rng(0, 0)},
	} {
		if x, e := pay.Value(c.fixes, c.day, c.kilos, c.share); x != c.want || e != api.OK {
			t.Errorf("%s: %v %d, not %v", c.name, x, e, c.want)
		}
	}
}

// twentyFixes are fixes of the days 0 to 19, each of as many cents.
func twentyFixes() []api.Fix {
	var list []api.Fix
	for day := range 20 {
		list = append(list, api.Fix{Day: day, Cents: day})
	}
	return list
}

// TestP8_4Errors: fixes, days, kilograms and shares with errors, in their order.
func TestP8_4Errors(t *testing.T) {
	f := fixesF()
	for _, c := range []struct {
		name  string
		fixes []api.Fix
		day   int
		kilos api.Range
		share int
		want  api.Errno
	}{
		{"21 fixes", slices.Repeat([]api.Fix{{Day: -1}}, 21), -1, rng(2, 1), -1, api.ErrMany},
		{"the first fix first", []api.Fix{{Day: 1}, {Day: 1}, {Day: -1}}, -1, rng(2, 1), -1, api.ErrOrder},
		{"Day -1 of a fix", []api.Fix{{Day: 1}, {Day: -1}}, 0, rng(2, 1), -1, api.ErrValue},
		{"Day 4001 of a fix", []api.Fix{{Day: 4001}, {}}, 0, rng(2, 1), -1, api.ErrValue},
		{"Cents -1", []api.Fix{{Day: 1}, {Cents: -1}}, 0, rng(2, 1), -1, api.ErrValue},
		{"Cents 100000001", []api.Fix{{Day: 1}, {Cents: 100000001}}, 0, rng(2, 1), -1, api.ErrValue},
		{"two fixes of a day", []api.Fix{{}, {}}, -1, rng(-1, 1), -1, api.ErrOrder},
		{"fixes back in time", []api.Fix{{Day: 2}, {Day: 1}}, -1, rng(-1, 1), -1, api.ErrOrder},
		{"day -1", f, -1, rng(2, 1), -1, api.ErrValue},
		{"day 4001", f, 4001, rng(2, 1), -1, api.ErrValue},
		{"kilos from -1", f, 9, rng(-1, 1), -1, api.ErrValue},
		{"kilos up to -1", f, 9, rng(0, -1), 5, api.ErrValue},
		{"kilos up to 1000001", f, 9, rng(1, 1000001), -1, api.ErrValue},
		{"kilos from 1000001", f, 9, rng(1000001, 1), 5, api.ErrValue},
		{"kilos the other way round", f, 9, rng(2, 1), -1, api.ErrOrder},
		{"share -1", f, 9, rng(1, 2), -1, api.ErrValue},
		{"share 1001", f, 9, rng(1, 2), 1001, api.ErrValue},
		{"a day before all fixes", f, 9, rng(1, 2), 1000, api.ErrUnknown},
		{"a day before all fixes, no share", f, 0, rng(0, 0), 0, api.ErrUnknown},
		{"no fixes", nil, 4000, rng(1, 2), 5, api.ErrUnknown},
		{"numbers far away", f, math.MaxInt, rng(math.MaxInt, math.MinInt), math.MinInt, api.ErrValue},
	} {
		if x, e := pay.Value(c.fixes, c.day, c.kilos, c.share); x != rng(0, 0) || e != c.want {
			t.Errorf("%s: %v %d, not %d", c.name, x, e, c.want)
		}
	}
}

// hedge returns a hedge.
func hedge(lot, bound, held int, stock ...api.Range) api.Hedge {
	return api.Hedge{Stock: stock, Lot: lot, Bound: bound, Held: held}
}

// withH returns H with a change.
func withH(change func(h *api.Hedge)) api.Hedge {
	h := hedgeH()
	change(&h)
	return h
}

// TestP8_5Exposed: by how much the yard is exposed with a plan, and errors of plans.
func TestP8_5Exposed(t *testing.T) {
	h := hedgeH()
	for _, c := range []struct {
		name string
		h    api.Hedge
		plan []int
		want []api.Range
		e    api.Errno
	}{
		{"the plan of Hedged", h, []int{4, 6, 5}, []api.Range{rng(-10, 10), rng(-10, 10), rng(-25, -5)}, api.OK},
		{"nothing is sold ahead", h, []int{0, 0, 0}, []api.Range{rng(90, 110), rng(140, 160), rng(100, 120)}, api.OK},
		{"too much is", h, []int{0, 0, 50}, []api.Range{rng(90, 110), rng(140, 160), rng(-1150, -1130)}, api.OK},
		{"the greatest numbers", hedge(1000000, 0, 0, rng(0, 1000000)), []int{50}, []api.Range{rng(-50000000, -49000000)}, api.OK},
		{"51 lots", h, []int{0, 0, 51}, nil, api.ErrValue},
		{"-1 lots", h, []int{0, -1, 0}, nil, api.ErrValue},
		{"lots far above", h, []int{math.MaxInt, 0, 0}, nil, api.ErrValue},
		{"a day too few", h, []int{99, 0}, nil, api.ErrForm},
		{"a day too many", h, []int{-1, 0, 0, 0}, nil, api.ErrForm},
		{"no days", h, nil, nil, api.ErrForm},
	} {
		if list, e := pay.Exposed(c.h, c.plan); !slices.Equal(list, c.want) || e != c.e {
			t.Errorf("%s: %v %d, not %v %d", c.name, list, e, c.want, c.e)
		}
	}
}

// TestP8_5Hedged: the plans with the fewest trades.
func TestP8_5Hedged(t *testing.T) {
	twenty := make([]api.Range, 20)
	for day := range twenty {
		twenty[day] = rng(50*(day%2), 50*(day%2))
	}
	var swings []int
	for day := range 20 {
		swings = append(swings, day%2*50)
	}
	for _, c := range []struct {
		name   string
		h      api.Hedge
		plan   []int
		trades int
		e      api.Errno
	}{
		{"H", hedgeH(), []int{4, 6, 5}, 3, api.OK},
		{"Bound 9", withH(func(h *api.Hedge) { h.Bound = 9 }), nil, 0, api.ErrLimit},
		{"Bound 10", withH(func(h *api.Hedge) { h.Stock, h.Bound = h.Stock[:2], 10 }), []int{4, 6}, 2, api.OK},
		{"as few as have to be", hedge(10, 10, 0, rng(20, 20)), []int{1}, 1, api.OK},
		{"as many as may be", hedge(10, 10, 9, rng(20, 20)), []int{3}, 6, api.OK},
		{"it is as it has to be", hedge(10, 10, 2, rng(20, 20)), []int{2}, 0, api.OK},
		{"of several the first one", hedge(10, 10, 2, rng(20, 20), rng(40, 40), rng(20, 20)), []int{2, 3, 3}, 1, api.OK},
		{"not too few on the first day", hedge(10, 10, 0, rng(20, 20), rng(60, 60)), []int{1, 5}, 5, api.OK},
		{"none on the first day", hedge(10, 10, 0, rng(10, 10), rng(30, 30)), []int{0, 2}, 2, api.OK},
		{"not down and up again", hedge(10, 10, 4, rng(30, 30), rng(20, 20), rng(40, 40)), []int{3, 3, 3}, 1, api.OK},
		{"50 lots", hedge(10, 5, 0, rng(0, 0), rng(500, 500)), []int{0, 50}, 50, api.OK},
		{"51 lots", hedge(10, 5, 0, rng(0, 0), rng(510, 510)), nil, 0, api.ErrLimit},
		{"a range that is too wide", hedge(10, 10, 0, rng(0, 21)), nil, 0, api.ErrLimit},
		{"a range that is just as wide as may be", hedge(10, 10, 0, rng(0, 20)), []int{1}, 1, api.OK},
		{"the first day has no plan", hedge(10, 10, 0, rng(0, 21), rng(0, 0)), nil, 0, api.ErrLimit},
		{"the last day has no plan", hedge(10, 10, 0, rng(0, 0), rng(0, 21)), nil, 0, api.ErrLimit},
		{"no bound", hedge(1, 0, 7, rng(7, 7)), []int{7}, 0, api.OK},
		{"just too little between two lots", hedge(10, 4, 0, rng(15, 15)), nil, 0, api.ErrLimit},
		{"the same for both lots", hedge(10, 5, 0, rng(15, 15)), []int{1}, 1, api.OK},
		{"all 20 days", hedge(1, 0, 50, twenty...), swings, 1000, api.OK},
		{"the greatest numbers", hedge(1000000, 1000000, 50, rng(1000000, 1000000)), []int{2}, 48, api.OK},
	} {
		if plan, trades, e := pay.Hedged(c.h); !slices.Equal(plan, c.plan) || trades != c.trades || e != c.e {
			t.Errorf("%s: %v %d %d, not %v %d %d", c.name, plan, trades, e, c.plan, c.trades, c.e)
		}
	}
}

// TestP8_5Errors: hedges with errors, in their order.
func TestP8_5Errors(t *testing.T) {
	for _, c := range []struct {
		name string
		h    api.Hedge
		want api.Errno
	}{
		{"no days", hedge(0, 30, 4), api.ErrFew},
		{"21 days", hedge(0, 30, 4, slices.Repeat([]api.Range{rng(2, 1)}, 21)...), api.ErrMany},
		{"the first day first", hedge(0, 30, 4, rng(2, 1), rng(-1, 1)), api.ErrOrder},
		{"Stock from -1", hedge(0, 30, 4, rng(-1, 1), rng(2, 1)), api.ErrValue},
		{"Stock up to -1", hedge(1, 30, 4, rng(0, -1), rng(2, 1)), api.ErrValue},
		{"Stock up to 1000001", hedge(1, 30, 4, rng(0, 1000001), rng(2, 1)), api.ErrValue},
		{"Stock the other way round", hedge(0, 30, 4, rng(1, 1), rng(2, 1)), api.ErrOrder},
		{"Lot 0", hedge(0, 30, 4, rng(1, 1)), api.ErrValue},
		{"Lot 1000001", hedge(1000001, 30, 4, rng(1, 1)), api.ErrValue},
		{"Bound -1", hedge(1, -1, 4, rng(1, 1)), api.ErrValue},
		{"Bound 1000001", hedge(1, 1000001, 4, rng(1, 1)), api.ErrValue},
		{"Held -1", hedge(1, 30, -1, rng(1, 1)), api.ErrValue},
		{"Held 51", hedge(1, 30, 51, rng(1, 1)), api.ErrValue},
		{"numbers far away", hedge(math.MinInt, math.MaxInt, math.MinInt, rng(math.MinInt, math.MaxInt)), api.ErrValue},
	} {
		plan, trades, e := pay.Hedged(c.h)
		list, f := pay.Exposed(c.h, []int{99})
		if plan != nil || trades != 0 || list != nil || e != c.want || f != c.want {
			t.Errorf("%s: %v %d %d, %v %d, not %d", c.name, plan, trades, e, list, f, c.want)
		}
	}
}

// roomy returns a copy of a list with zeros behind it.
func roomy[T any](list []T) []T { return append(make([]T, 0, 9), list...) }

// isRoomy tells whether a list that was roomy still has its elements, and zeros behind it.
func isRoomy[T comparable](list, elements []T) bool {
	return slices.Equal(list[:9], append(slices.Clone(elements), make([]T, 9-len(elements))...))
}

// TestRules: no argument is changed or kept, and no result shares memory (R2, R4).
func TestRules(t *testing.T) {
	x, h := tillT(1500), hedgeH()
	x.Links, x.Dues, h.Stock = roomy(x.Links), roomy(x.Dues), roomy(h.Stock)
	list, fixes, plan := roomy(listL()), roomy(fixesF()), roomy([]int{4, 6, 5})
	reads := roomy([]string{"A?1?", "?B??"})
	for range 2 {
		pay.Check(x)
		pay.Same(x, 0, 1)
		pay.Lawful(x)
		pay.Breach(x)
		pay.Room(x, 0, 4)
		pay.Soonest(x, 0, 4, 2000)
		_, tags, _ := pay.Match(list, reads)
		pay.Held(list, reads, 5)
		pay.Value(fixes, 11, rng(1, 2), 5)
		exposed, _ := pay.Exposed(h, plan)
		best, _, _ := pay.Hedged(h)
		text, _ := pay.Account(x)
		read, _, _ := pay.Parse(text)
		if !slices.Equal(tags, []int{0}) || len(exposed) != 3 || exposed[2] != rng(-25, -5) || !slices.Equal(best, []int{4, 6, 5}) || !sameTill(read, x) {
			t.Error("two results share memory", tags, exposed, best, read)
		}
		tags[0], exposed[2], best[0], read.Links[0], read.Dues[0] = 9, rng(1, 2), 9, api.Link{}, api.Due{}
	}
	isKept := isRoomy(x.Links, tillT(0).Links) && isRoomy(x.Dues, tillT(0).Dues) && isRoomy(h.Stock, hedgeH().Stock)
	isKept = isKept && isRoomy(list, listL()) && isRoomy(fixes, fixesF()) && isRoomy(plan, []int{4, 6, 5})
	if !isKept || !isRoomy(reads, []string{"A?1?", "?B??"}) {
		t.Error("an argument was changed")
	}
}

// wild returns a random number, often one at a bound or far beyond.
func wild(r *rand.Rand) int {
	numbers := []int{0, 0, 0, 1, 1, 1, 2, 2, 3, -1, -1, -2, 8, 9, 30, 31, 50, 51, 60, 61, 1000, 1001, 4000, 4001, 1000000, 1000001, 100000000, 100000001, math.MaxInt, math.MinInt, math.MaxInt32, math.MinInt32}
	return numbers[r.Intn(len(numbers))]
}

// wildTill returns a till with some wild numbers.
func wildTill(r *rand.Rand) api.Till {
	x := randomTill(r, 8, 12, 22)
	numbers := []*int{&x.Names, &x.Limit, &x.Window}
	for i := range x.Links {
		numbers = append(numbers, &x.Links[i].A, &x.Links[i].B)
	}
	for i := range x.Dues {
		numbers = append(numbers, &x.Dues[i].Day, &x.Dues[i].Name, &x.Dues[i].Cents)
	}
	for range r.Intn(3) {
		*numbers[r.Intn(len(numbers))] = wild(r)
	}
	return x
}

// wildList returns a list of so many wild things at most.
func wildList[T any](r *rand.Rand, most int, thing func() T) []T {
	var list []T
	for range r.Intn(most + 1) {
		list = append(list, thing())
	}
	return list
}

// TestP1: no call panics, whatever the arguments are.
func TestP1(t *testing.T) {
	r := rand.New(rand.NewSource(1))
	words := []string{"till", "same", "maybe", "cash", "bank", "end", ";", ";0", ";1", ";0;1", ";0;0;0", "\n", "\n", "\xff"}
	signs := "AAAAABBBBB11111?????a\xff"
	code := func() string { return string(wildList(r, 9, func() byte { return signs[r.Intn(len(signs))] })) }
	span := func() api.Range { return rng(wild(r), wild(r)) }
	for range 6000 {
		x := wildTill(r)
		pay.Check(x)
		pay.Same(x, wild(r), wild(r))
		pay.Lawful(x)
		pay.Breach(x)
		pay.Room(x, wild(r), wild(r))
		pay.Soonest(x, wild(r), wild(r), wild(r))
		pay.Account(x)
		list := wildList(r, 13, func() api.Tag { return api.Tag{Code: code(), Hold: wild(r)} })
		reads := wildList(r, 5, code)
		pay.Match(list, reads)
		pay.Held(list, reads, wild(r))
		pay.Match(nil, reads)
		pay.Value(wildList(r, 3, func() api.Fix { return api.Fix{Day: wild(r), Cents: wild(r)} }), wild(r), span(), wild(r))
		h := hedge(wild(r), wild(r), wild(r), wildList(r, 22, span)...)
		pay.Exposed(h, wildList(r, 4, func() int { return wild(r) }))
		pay.Hedged(h)
		text := strings.Join(wildList(r, 30, func() string { return words[r.Intn(len(words))] }), "")
		pay.Parse("till;2;9;3\n" + text)
		pay.Parse(text)
	}
}
