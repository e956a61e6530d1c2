package clerk_test

import (
	"math"
	"math/rand"
	"slices"
	"strings"
	"testing"

	"swarf/api"
	"swarf/clerk"
)

// Changes of an office that make it not valid, each by another rule.
func badStep(o *api.Office)  { o.Log.Step = 0 }
func badLog(o *api.Office)   { o.Log.Events = []api.Event{{Kind: api.EventEmpty, Shown: 5}} }
func badGates(o *api.Office) { o.Site.Gates = nil }
func badSite(o *api.Office)  { o.Site.Doings = []api.Doing{pass(0, 0, 4)} }
func badSorts(o *api.Office) { o.Ground.Sorts = nil }
func badGround(o *api.Office) {
	o.Ground.Acts = []api.Act{tipped(2, 0, 0, 4, 4), taken(2, 0, 5, 5)}
}
func badNames(o *api.Office)  { o.Till.Names = 9 }
func badWindow(o *api.Office) { o.Till.Window = 0 }
func badPiles(o *api.Office)  { o.Site.Piles = 3 }
func badDay(o *api.Office)    { o.Day = -1 }
func badDue(o *api.Office)    { o.Till.Dues = []api.Due{bank(6, 0, 0)} }

// TestP10_1Check: each error, and which one comes first; Run, Keep and Report return it, too, whatever the book is (P10.2 to P10.4), and nothing else (R3).
func TestP10_1Check(t *testing.T) {
	for _, c := range []struct {
		name string
		o    api.Office
		want api.Errno
	}{
		{"O", officeO(), api.OK},
		{"Step 0", withO(badStep, badLog, badGates), api.ErrValue},
		{"a log that may not be", withO(badLog, badGates, badSite), api.ErrConflict},
		{"15 events", withO(func(o *api.Office) { o.Log.Events = slices.Repeat([]api.Event{load(9)}, 15) }, badGates), api.ErrMany},
		{"no gate", withO(badGates, badSite, badGround), api.ErrFew},
		{"a site that may not be", withO(badSite, badSorts), api.ErrConflict},
		{"no lorry", withO(func(o *api.Office) { o.Site.Lorries = 0 }, badSorts), api.ErrValue},
		{"no sort", withO(badSorts, badGround, badNames), api.ErrFew},
		{"a ground that may not be", withO(badGround, badNames), api.ErrConflict},
		{"an act on a spot that is not there", withO(func(o *api.Office) { o.Ground.Acts = []api.Act{tipped(0, 2, 0, 1, 1)} }, badNames), api.ErrUnknown},
		{"9 names", withO(badNames, badWindow, badPiles, badDay), api.ErrMany},
		{"Window 0", withO(badWindow, badPiles, badDay), api.ErrValue},
		{"3 piles on 2 spots", withO(badPiles, badDay, badDue), api.ErrForm},
		{"a pile on 2 spots", withO(func(o *api.Office) { o.Site.Piles = 1 }), api.ErrForm},
		{"5 piles", withO(func(o *api.Office) { o.Site.Piles = 5 }), api.ErrForm},
		{"day -1", withO(badDay), api.ErrValue},
		{"day -1, and a due on 6", withO(badDay, badDue), api.ErrValue},
		{"day 4001", withO(func(o *api.Office) { o.Day = 4001 }), api.ErrValue},
		{"day 4000", withO(func(o *api.Office) { o.Day = 4000 }), api.OK},
		{"day 0", withO(func(o *api.Office) { o.Day = 0 }), api.OK},
		{"a due on 6", withO(badDue), api.ErrLate},
		{"the last due is on 6", withO(func(o *api.Office) { o.Till.Dues = []api.Due{cash(1, 0, 0), cash(6, 0, 0)} }), api.ErrLate},
		{"dues on 1 and 5", withO(func(o *api.Office) { o.Till.Dues = []api.Due{cash(1, 0, 0), cash(5, 0, 0)} }), api.OK},
		{"a law that is broken", withO(func(o *api.Office) { o.Till.Dues = []api.Due{cash(5, 0, 101)} }), api.OK},
		{"rules that are broken", withO(func(o *api.Office) { o.Ground.Acts = []api.Act{tipped(1, 0, 0, 9000, 9000)} }), api.OK},
		{"a pile with a source", withO(func(o *api.Office) { o.Site.Doings = []api.Doing{pass(0, 0, 9), tip(0, 0)} }), api.OK},
		{"four spots", withO(func(o *api.Office) { o.Site.Piles, o.Ground.Spots = 4, slices.Repeat(o.Ground.Spots, 2) }), api.OK},
	} {
		if e := clerk.Check(c.o); e != c.want {
			t.Errorf("%s: %d, not %d", c.name, e, c.want)
		}
		for _, book := range []string{"", "breaks\n", "x", strings.Repeat("\n", 41), strings.Repeat("x", 3001)} {
			if c.want != api.OK {
				checkError(t, c.o, book, c.want)
			}
		}
	}
}

// checkError checks that Run, Keep and Report return an error, and nothing else.
func checkError(t *testing.T, o api.Office, book string, want api.Errno) {
	t.Helper()
	replies, a := clerk.Run(o, book)
	counter, b := clerk.Keep(o, book)
	report, c := clerk.Report(o, book)
	if a != want || b != want || c != want || replies != "" || report != "" || !sameCounter(counter, api.Counter{}) {
		t.Errorf("%v, %.20q: %q %d, %v %d, %q %d, not %d", o, book, replies, a, counter, b, report, c, want)
	}
}

// TestP10_2Book: which books there may be; Keep and Report return the same errors (P10.3, P10.4).
func TestP10_2Book(t *testing.T) {
	long := "room 0" + strings.Repeat(" ", 68) + "\n"
	for _, c := range []struct {
		name, book string
		want       api.Errno
	}{
		{"3001 bytes", strings.Repeat("x", 3000) + "\n", api.ErrLong},
		{"3001 bytes, no line feed", strings.Repeat("x", 3001), api.ErrLong},
		{"3001 line feeds", strings.Repeat("\n", 3001), api.ErrLong},
		{"3001 bytes of 1001 runes", strings.Repeat("\u2028", 1000) + "\n", api.ErrLong},
		{"3000 bytes, no line feed", strings.Repeat("\n", 41) + strings.Repeat("x", 2959), api.ErrForm},
		{"no line feed", "breaks", api.ErrForm},
		{"no line feed at the end", "breaks\nbreaks", api.ErrForm},
		{"something after the line feed", "breaks\n ", api.ErrForm},
		{"another line feed", "breaks\n\r", api.ErrForm},
		{"41 lines", strings.Repeat("breaks\n", 41), api.ErrMany},
		{"3000 line feeds", strings.Repeat("\n", 3000), api.ErrMany},
		{"41 empty lines", strings.Repeat("\n", 41), api.ErrMany},
	} {
		t.Run(c.name, func(t *testing.T) { checkError(t, officeO(), c.book, c.want) })
	}
	for _, c := range []struct{ name, book, want string }{
		{"nothing", "", ""},
		{"an empty line", "\n", "error 2\n"},
		{"40 lines", strings.Repeat("room 0\n", 40), strings.Repeat("100\n", 40)},
		{"40 empty lines", strings.Repeat("\n", 40), strings.Repeat("error 2\n", 40)},
		{"3000 bytes", strings.Repeat(long, 40), strings.Repeat("error 2\n", 40)},
		{"3000 bytes in a line", strings.Repeat("x", 2999) + "\n", "error 2\n"},
		{"empty lines between others", "\nbreaks\n\n\nroom 0\n\n", "error 2\n-1 -1\nerror 2\nerror 2\n100\nerror 2\n"},
	} {
		if s, e := clerk.Run(officeO(), c.book); s != c.want || e != api.OK {
			t.Errorf("%s: %q %d, not %q", c.name, s, e, c.want)
		}
	}
}

// dialog is a book, each line with its reply.
type dialog []struct{ line, reply string }

// checkDialog checks the replies to the lines of a dialog.
func checkDialog(t *testing.T, name string, o api.Office, d dialog) {
	t.Helper()
	var lines []string
	for _, c := range d {
		lines = append(lines, c.line)
	}
	for i, reply := range mustRun(t, o, lines) {
		if reply != d[i].reply {
			t.Errorf("%s, line %d, %q: %q, not %q", name, i, d[i].line, reply, d[i].reply)
		}
	}
}

// TestP10_2Example: the example of the chapter, and that of the document.
func TestP10_2Example(t *testing.T) {
	checkDialog(t, "O", officeO(), dialog{
		{"empty 1 0 0", "event 0"}, {"load 601 0 0", "event 1"}, {"load 101 0 0", "event 2"}, {"empty 9 0 0", "error 9"},
		{"net 1 2", "500 500"}, {"pass 0 0 2", "nowhere"}, {"pass 0 1 8", "always"}, {"tip 0 0 0 1 2", "ok"}, {"tip 1 1 0 1 2", "error 15"},
		{"at 3", "ok"}, {"take 0 100 150", "ok"}, {"mass 0", "350 400"}, {"cash 0 80", "ok"}, {"cash 0 21", "error 13"}, {"room 0", "20"},
		{"suspects 0", "none"}, {"breaks", "-1 -1"}, {"at 2", "error 1"}, {"Net 1 2", "error 2"},
	})
}

// TestP10_2Form: which lines there may be.
func TestP10_2Form(t *testing.T) {
	var wrong []string
	for _, form := range forms {
		line := regexpLetters.ReplaceAllString(form, "1")
		word, _, hasNumbers := strings.Cut(line, " ")
		wrong = append(wrong, line+" 1", line+" ", " "+line, line+"\r", strings.ToUpper(word)+line[len(word):], line+"x", line+" x", word+"_"+line[len(word):], line+"\x00")
		if hasNumbers {
			wrong = append(wrong, line[:len(line)-2], line[:len(line)-1], strings.Replace(line, " ", "  ", 1), strings.Replace(line, " ", "\t", 1), strings.Replace(line, " ", "", 1), word, word+" "+word)
		}
	}
	for _, n := range []string{"", "00", "01", "-0", "-00", "-01", "+1", "--1", "-", "1-", "1.", "1.0", "0x1", "1e1", "1_0", "1000000", "-1000000", "0000001", "9999999999999999999999", "१", "٣", "１", "1\xff", "\xff", "1\u0301", "a", "/", ":", "one", "\"1\""} {
		wrong = append(wrong, "at "+n, "room "+n, "net 0 "+n, "tip 0 "+n+" 0 1 2")
	}
	wrong = append(wrong, "", " ", "  ", "x", "end", "error", "move 0 1", "AT 1", "1 at", "1", "ok")
	for _, line := range wrong {
		checkDialog(t, "wrong", officeO(), dialog{{line, "error 2"}, {"room 0", "100"}})
	}
	checkDialog(t, "right", withO(func(o *api.Office) { o.Till.Limit = 1000000 }), dialog{
		{"at 999999", "error 1"}, {"at -999999", "error 1"}, {"at -1", "error 1"}, {"at 0", "ok"}, {"at 10", "ok"}, {"room 100001", "error 3"},
		{"bank 0 999999", "ok"}, {"bank 0 123456", "ok"}, {"cash 0 987654", "ok"}, {"room 0", "12346"}, {"cash 0 12340", "ok"}, {"room 0", "6"}, {"mass -10", "error 3"},
	})
}

// TestP10_2At: the hour.
func TestP10_2At(t *testing.T) {
	checkDialog(t, "O", officeO(), dialog{
		{"at 0", "ok"}, {"at -1", "error 1"}, {"at 3", "ok"}, {"at 2", "error 1"}, {"at 3", "ok"}, {"at 73", "error 1"}, {"at 72", "ok"}, {"at 71", "error 1"}, {"at 72", "ok"},
	})
	checkDialog(t, "the hour of the last act", withO(func(o *api.Office) {
		o.Ground.Acts = []api.Act{tipped(2, 0, 0, 5, 5), taken(4, 0, 1, 1)}
	}), dialog{{"at 3", "error 1"}, {"take 0 1 1", "ok"}, {"at 3", "error 1"}, {"at 4", "ok"}})
	checkDialog(t, "the last hour", withO(func(o *api.Office) { o.Ground.Acts = []api.Act{tipped(72, 0, 0, 5, 5)} }), dialog{{"at 71", "error 1"}, {"at 72", "ok"}})
}

// TestP10_2Events: what the bridge shows.
func TestP10_2Events(t *testing.T) {
	checkDialog(t, "one after the other", officeO(), dialog{
		{"test 100 105 0 2", "error 9"}, {"test 100 103 0 1", "event 0"}, {"empty 2 0 0", "error 9"}, {"empty 2 -1 0", "event 1"}, {"load 50 0 3", "event 2"},
		{"test 100 100 -1 0", "error 9"}, {"test 100 106 0 1", "event 3"}, {"empty 5 -1 -1", "event 4"}, {"load 4 0 0", "error 9"}, {"load 5 0 0", "event 5"},
	})
	checkDialog(t, "errors", withO(func(o *api.Office) { o.Log.Step = 5 }), dialog{
		{"load 61 0 0", "error 2"}, {"load 60005 0 0", "error 1"}, {"load -60005 0 0", "error 1"}, {"load 60 1 0", "error 5"}, {"load 60 0 201", "error 1"}, {"load 60 -201 0", "error 1"},
		{"test -1 0 0 0", "error 1"}, {"test 60001 60000 0 0", "error 1"}, {"test 60000 60000 0 0", "event 0"}, {"empty 3 0 0", "error 2"}, {"empty -5 -9 0", "event 1"}, {"empty 195 200 200", "event 2"},
		{"empty -200 -400 -400", "error 1"}, {"empty -5 -200 -200", "event 3"}, {"load -205 -200 -200", "error 9"}, {"load -200 -195 -195", "event 4"},
	})
	full := withO(func(o *api.Office) { o.Log.Events = slices.Repeat([]api.Event{load(9)}, 13) })
	checkDialog(t, "14 events", full, dialog{{"load 9 0 0", "event 13"}, {"load 9 0 0", "error 6"}, {"load 9 1 0", "error 6"}, {"empty 9 0 0", "error 6"}, {"net 13 12", "0 0"}})
}

// TestP10_2Gates: what the gates count, and what is found in piles.
func TestP10_2Gates(t *testing.T) {
	checkDialog(t, "passes", officeO(), dialog{
		{"pass 0 0 3", "nowhere"}, {"pass 0 0 5", "error 9"}, {"pass 0 1 7", "always"}, {"pass 0 1 3", "error 9"}, {"pass 0 0 4", "error 9"}, {"pass 0 0 1", "nowhere"},
		{"pass 1 2 -1", "error 3"}, {"pass -1 0 2", "error 3"}, {"pass 0 2 -1", "error 3"}, {"pass 0 -1 2", "error 3"}, {"pass 0 0 -1", "error 1"}, {"pass 0 0 20001", "error 1"}, {"pass 0 0 20000", "error 9"},
	})
	unsure := withO(func(o *api.Office) { o.Site.Source, o.Site.Lorries = rng(1, 2), 3 })
	checkDialog(t, "unsure", unsure, dialog{{"pass 0 0 3", "unsure"}, {"pass 0 1 5", "always"}, {"pass 0 0 4", "nowhere"}, {"pass 0 2 4", "nowhere"}})
	checkDialog(t, "measured", unsure, dialog{
		{"find 0", "error 9"}, {"clean 0", "ok"}, {"find 2", "error 3"}, {"clean 2", "error 3"}, {"find -1", "error 3"}, {"clean -1", "error 3"}, {"suspects 0", "none"},
	})
	three := withO(func(o *api.Office) {
		o.Site.Lorries, o.Site.Doings = 4, []api.Doing{tip(0, 1), tip(2, 1), tip(3, 0)}
	})
	checkDialog(t, "found", three, dialog{
		{"suspects 0", "3"}, {"suspects 1", "0 2"}, {"find 1", "ok"}, {"suspects 0", "none"}, {"suspects 1", "0 2"}, {"clean 1", "error 9"}, {"clean 0", "ok"}, {"find 0", "error 9"}, {"pass 0 0 3", "unsure"}, {"pass 0 1 3", "nowhere"},
		{"suspects 2", "error 3"}, {"suspects -1", "error 3"},
	})
	full := withO(func(o *api.Office) { o.Site.Doings = slices.Repeat([]api.Doing{pass(0, 0, 2)}, 13) })
	checkDialog(t, "14 doings", full, dialog{{"pass 0 1 2", "nowhere"}, {"pass 0 1 2", "error 6"}, {"pass 9 9 2", "error 6"}, {"find 0", "error 6"}, {"clean 0", "error 6"}, {"suspects 0", "none"}})
}

// TestP10_2Net: net weights.
func TestP10_2Net(t *testing.T) {
	o := withO(func(o *api.Office) {
		o.Log.Events = []api.Event{load(601), {Kind: api.EventEmpty, Shown: 2, Change: rng(0, 2)}, load(101)}
	})
	checkDialog(t, "net", o, dialog{
		{"net 0 2", "500 502"}, {"net 2 0", "-502 -500"}, {"net 0 0", "error 4"}, {"net 0 1", "error 8"}, {"net 1 0", "error 8"}, {"net 0 3", "error 3"}, {"net 3 0", "error 3"}, {"net -1 0", "error 3"}, {"net 0 -1", "error 3"},
		{"load 60 0 3", "event 3"}, {"net 0 3", "541 546"},
	})
}

// lorries is O with 6 lorries that surely carry no source, but for those of held, and the events of weighed before all lines.
func lorries(held ...int) api.Office {
	return withO(func(o *api.Office) {
		o.Log.Events = []api.Event{{Kind: api.EventEmpty, Shown: 1}, load(601), load(101)}
		o.Site.Lorries = 6
		for lorry := range 6 {
			if !slices.Contains(held, lorry) {
				o.Site.Doings = append(o.Site.Doings, pass(0, lorry, 2))
			}
		}
	})
}

// also returns an office with changes.
func also(o api.Office, changes ...func(o *api.Office)) api.Office {
	for _, change := range changes {
		change(&o)
	}
	return o
}

// tenActs makes all ten acts of a ground tips of a kilogram.
func tenActs(o *api.Office) { o.Ground.Acts = slices.Repeat([]api.Act{tipped(0, 0, 0, 1, 1)}, 10) }

// otherSort gives a ground a second sort.
func otherSort(o *api.Office) {
	o.Ground.Sorts = append(o.Ground.Sorts, api.Sort{High: 100, Dense: 100, Fire: 9, Age: 1})
}

// TestP10_2Tip: where lorries are tipped, each error, and which one comes first.
func TestP10_2Tip(t *testing.T) {
	checkDialog(t, "held", lorries(3, 4, 5), dialog{
		{"tip 0 0 0 1 0", "error 8"}, {"tip 9 9 9 1 1", "error 4"}, {"tip 9 9 9 1 3", "error 3"}, {"tip 6 0 0 1 2", "error 3"}, {"tip -1 0 0 1 2", "error 3"}, {"tip 3 2 0 1 2", "error 3"}, {"tip 0 -1 0 1 2", "error 3"},
		{"tip 3 0 9 2 1", "error 15"}, {"tip 3 0 0 1 2", "error 15"}, {"tip 0 0 9 2 1", "error 7"}, {"tip 0 0 9 1 2", "error 3"}, {"tip 0 0 -1 1 2", "error 3"},
		{"mass 0", "0 0"}, {"tip 0 0 0 1 2", "ok"}, {"tip 0 9 0 1 2", "error 3"}, {"tip 0 0 9 2 1", "error 4"}, {"mass 0", "500 500"}, {"tip 1 0 0 1 2", "ok"}, {"tip 2 0 0 1 2", "error 13"}, {"tip 2 1 0 1 2", "ok"},
		{"mass 0", "1000 1000"}, {"mass 1", "500 500"}, {"suspects 0", "none"}, {"pass 0 0 8", "error 9"},
	})
	tippedBefore := also(lorries(5), func(o *api.Office) { o.Site.Doings = append(o.Site.Doings, tip(5, 0)) })
	checkDialog(t, "tipped before", tippedBefore, dialog{{"tip 5 1 0 1 2", "error 4"}, {"tip 4 1 0 1 2", "ok"}, {"tip 3 0 0 1 2", "ok"}, {"suspects 0", "5"}, {"take 1 1 1", "ok"}, {"take 0 1 1", "error 15"}})
	doings := also(lorries(5), func(o *api.Office) { o.Site.Doings = append(o.Site.Doings, slices.Repeat(o.Site.Doings[:1], 8)...) })
	checkDialog(t, "14 doings", doings, dialog{{"tip 5 0 0 1 2", "error 15"}, {"tip 1 0 0 1 2", "ok"}, {"tip 5 0 0 1 2", "error 6"}, {"tip 2 0 0 1 2", "error 6"}, {"tip 9 9 0 1 2", "error 6"}, {"tip 9 9 0 2 2", "error 4"}})
	checkDialog(t, "10 acts", also(lorries(), tenActs), dialog{{"tip 0 0 9 1 2", "error 3"}, {"tip 0 0 0 1 2", "error 6"}, {"tip 0 1 0 1 2", "error 6"}, {"mass 0", "10 10"}})
	near := func(o *api.Office) { o.Ground.Spots[1].X = 4 }
	checkDialog(t, "10 acts, too near", also(lorries(), tenActs, near), dialog{{"tip 0 1 0 1 2", "error 13"}, {"tip 0 0 0 1 2", "error 6"}})
	checkDialog(t, "too near", also(lorries(), near), dialog{{"tip 0 1 0 1 2", "ok"}, {"tip 1 0 0 1 2", "error 13"}, {"tip 1 1 0 1 2", "ok"}})
	checkDialog(t, "another sort", also(lorries(), otherSort), dialog{{"tip 0 1 1 1 2", "ok"}, {"tip 1 1 0 1 2", "error 13"}, {"tip 1 0 0 1 2", "ok"}, {"tip 2 1 1 1 2", "ok"}, {"breaks", "2 2"}})
	unsure := withO(func(o *api.Office) { o.Site.Source = rng(1, 1) })
	checkDialog(t, "unsure", unsure, dialog{{"load 20 0 0", "event 0"}, {"load 9 0 0", "event 1"}, {"pass 0 0 3", "unsure"}, {"tip 0 0 0 0 1", "error 15"}, {"pass 0 0 3", "unsure"}, {"pass 0 1 5", "always"}, {"tip 0 0 0 0 1", "ok"}, {"tip 1 0 0 0 1", "error 15"}})
}

// TestP10_2TipMass: by what a lorry is tipped that is known within a range.
func TestP10_2TipMass(t *testing.T) {
	wide := func(full, bare int) api.Office {
		return also(lorries(), func(o *api.Office) {
			o.Log = api.Log{Step: 1, Zero: rng(0, 2), Events: []api.Event{load(full), {Kind: api.EventLoad, Shown: bare, Change: rng(-1, 1)}}}
		})
	}
	checkDialog(t, "as much as may be", wide(1099, 100), dialog{{"net 0 1", "998 1000"}, {"tip 0 0 0 0 1", "ok"}, {"mass 0", "998 1000"}, {"tip 1 0 0 0 1", "error 13"}, {"take 0 999 999", "ok"}, {"mass 0", "0 1"}})
	checkDialog(t, "perhaps more", wide(1100, 100), dialog{{"net 0 1", "999 1001"}, {"tip 0 0 0 0 1", "error 13"}, {"mass 0", "0 0"}})
	checkDialog(t, "just a kilogram", wide(102, 100), dialog{{"net 0 1", "1 3"}, {"tip 0 0 0 0 1", "ok"}, {"mass 0", "1 3"}})
	checkDialog(t, "perhaps nothing", wide(101, 100), dialog{{"net 0 1", "0 2"}, {"tip 0 0 0 0 1", "error 7"}, {"tip 0 0 9 0 1", "error 7"}, {"mass 0", "0 0"}})
	checkDialog(t, "less than nothing", wide(100, 200), dialog{{"tip 0 0 0 0 1", "error 7"}, {"tip 0 0 0 1 0", "ok"}, {"mass 0", "99 101"}})
	checkDialog(t, "known better later", wide(601, 101), dialog{{"tip 0 0 0 0 1", "ok"}, {"mass 0", "499 501"}, {"empty 4 0 1", "event 2"}, {"net 0 1", "501 501"}, {"mass 0", "499 501"}, {"tip 1 1 0 0 1", "ok"}, {"mass 1", "501 501"}})
	heavy := also(wide(60000, 0), func(o *api.Office) { o.Ground.Sorts[0].Dense = 8000 })
	checkDialog(t, "the heaviest lorry", heavy, dialog{{"net 0 1", "59999 60000"}, {"tip 0 0 0 0 1", "ok"}, {"tip 1 0 0 0 1", "error 13"}})
}

// TestP10_2Take: when scrap is taken, each error, and which one comes first.
func TestP10_2Take(t *testing.T) {
	o := withO(func(o *api.Office) {
		o.Ground.Acts = []api.Act{tipped(4, 0, 0, 50, 60), tipped(4, 1, 0, 10, 20)}
		o.Site.Doings = []api.Doing{tip(0, 1)}
	})
	checkDialog(t, "take", o, dialog{
		{"take 1 1 6", "error 15"}, {"take 1 90 99", "error 15"}, {"take 1 0 5", "error 1"}, {"take 1 5 0", "error 1"}, {"take 1 5 4", "error 5"}, {"take 1 1 1000001", "error 2"}, {"take 2 1 1", "error 3"}, {"take -1 1 1", "error 3"}, {"take 2 0 1", "error 3"},
		{"take 0 61 99", "error 9"}, {"take 0 60 99", "ok"}, {"mass 0", "0 0"}, {"take 0 1 1", "error 9"}, {"suspects 1", "0"}, {"clean 1", "ok"}, {"take 1 1 6", "ok"}, {"mass 1", "4 19"}, {"at 9", "ok"}, {"take 1 4 4", "ok"}, {"mass 1", "0 15"}, {"breaks", "-1 -1"},
		{"take 1 16 999999", "error 9"}, {"take 1 15 999999", "ok"}, {"mass 1", "0 0"},
	})
	found := also(o, func(o *api.Office) { o.Site.Doings = append(o.Site.Doings, api.Doing{Kind: api.DoFind, A: 1}) })
	checkDialog(t, "found", found, dialog{{"take 1 1 1", "error 15"}, {"take 0 1 1", "ok"}, {"clean 1", "error 9"}})
	held := also(o, tenActs)
	checkDialog(t, "10 acts", held, dialog{{"take 1 1 1", "error 6"}, {"take 0 1 1", "error 6"}, {"take 9 1 1", "error 6"}, {"mass 0", "10 10"}})
	moved := withO(func(o *api.Office) {
		o.Site.Doings = []api.Doing{tip(0, 0), {Kind: api.DoMove, A: 0, B: 1}}
		o.Ground.Acts = []api.Act{tipped(4, 1, 0, 10, 20)}
	})
	checkDialog(t, "moved", moved, dialog{{"take 1 1 1", "error 15"}, {"find 0", "ok"}, {"take 1 1 1", "ok"}, {"take 0 1 1", "error 15"}})
}

// TestP10_2Till: what is paid in cash, and what is not.
func TestP10_2Till(t *testing.T) {
	checkDialog(t, "cash and bank", officeO(), dialog{
		{"room 0", "100"}, {"cash 0 101", "error 13"}, {"cash 0 60", "ok"}, {"cash 1 100", "ok"}, {"cash 0 41", "error 13"}, {"bank 0 41", "ok"}, {"bank 0 999999", "ok"}, {"cash 0 40", "ok"}, {"room 0", "0"}, {"cash 0 0", "ok"}, {"cash 0 1", "error 13"},
		{"cash 2 1", "error 3"}, {"cash -1 1", "error 3"}, {"cash 0 -1", "error 1"}, {"bank 2 1", "error 3"}, {"bank 0 -1", "error 1"}, {"cash 2 -1", "error 3"}, {"room 2", "error 3"}, {"room -1", "error 3"}, {"room 1", "0"},
	})
	broken := withO(func(o *api.Office) { o.Till.Dues = []api.Due{cash(5, 0, 101)} })
	checkDialog(t, "the law is broken", broken, dialog{{"room 1", "error 13"}, {"room 2", "error 3"}, {"cash 1 0", "error 13"}, {"cash 2 0", "error 3"}, {"cash 1 -1", "error 1"}, {"bank 1 7", "ok"}, {"room 0", "error 13"}})
	linked := func(isSure bool) api.Office {
		return withO(func(o *api.Office) {
			o.Till.Links, o.Till.Window = []api.Link{{A: 1, B: 0, Sure: isSure}}, 2
			o.Till.Dues = []api.Due{cash(3, 0, 90), cash(4, 0, 20), bank(4, 1, 500)}
		})
	}
	for _, isSure := range []bool{false, true} {
		checkDialog(t, "linked", linked(isSure), dialog{{"room 1", "error 13"}, {"cash 1 1", "error 13"}})
		within := also(linked(isSure), func(o *api.Office) { o.Till.Dues[0].Day = 2 })
		checkDialog(t, "linked, and kept", within, dialog{{"room 1", "80"}, {"cash 1 81", "error 13"}, {"cash 1 80", "ok"}, {"room 0", "0"}, {"cash 0 1", "error 13"}})
	}
	apart := also(linked(false), func(o *api.Office) { o.Till.Links = nil })
	checkDialog(t, "not linked", apart, dialog{{"room 1", "error 13"}})
	dues := withO(func(o *api.Office) { o.Till.Dues = slices.Repeat([]api.Due{bank(5, 0, 1)}, 18) })
	checkDialog(t, "20 dues", dues, dialog{{"cash 0 1", "ok"}, {"bank 0 1", "ok"}, {"cash 0 1", "error 6"}, {"bank 0 1", "error 6"}, {"cash 0 101", "error 6"}, {"bank 9 1", "error 6"}, {"room 0", "99"}})
	other := withO(func(o *api.Office) {
		o.Day, o.Till.Window, o.Till.Dues = 8, 3, []api.Due{cash(5, 0, 50), cash(6, 0, 40)}
	})
	checkDialog(t, "on another day", other, dialog{{"room 0", "60"}, {"cash 0 60", "ok"}, {"cash 0 1", "error 13"}})
	last := withO(func(o *api.Office) { o.Day, o.Till.Dues = 4000, []api.Due{cash(4000, 0, 30)} })
	checkDialog(t, "on the last day", last, dialog{{"room 0", "70"}, {"cash 0 70", "ok"}, {"room 0", "0"}})
}

// TestP10_2Ground: what lies where, and when a rule may be broken.
func TestP10_2Ground(t *testing.T) {
	o := withO(func(o *api.Office) {
		o.Ground.Sorts[0].Age = 10
		o.Ground.Acts = []api.Act{tipped(1, 0, 0, 5, 6), tipped(2, 1, 0, 3, 3)}
	})
	checkDialog(t, "age", o, dialog{
		{"breaks", "12 12"}, {"mass 0", "5 6"}, {"mass 1", "3 3"}, {"mass 2", "error 3"}, {"mass -1", "error 3"}, {"take 0 5 5", "ok"}, {"breaks", "12 13"}, {"mass 0", "0 1"}, {"at 20", "ok"}, {"take 1 3 3", "ok"}, {"breaks", "12 13"}, {"mass 1", "0 0"},
	})
	perhaps := withO(func(o *api.Office) { o.Ground.Acts = []api.Act{tipped(3, 0, 0, 999, 1001)} })
	checkDialog(t, "perhaps", perhaps, dialog{{"breaks", "3 -1"}, {"take 0 1 1", "ok"}, {"mass 0", "998 1000"}, {"breaks", "-1 -1"}})
}

// TestP10_3Keep: what the counter is after a book.
func TestP10_3Keep(t *testing.T) {
	start := func() api.Office {
		return also(lorries(4, 5), otherSort, func(o *api.Office) {
			o.Till.Dues = []api.Due{bank(5, 1, 3)}
			o.Ground.Acts = []api.Act{tipped(2, 1, 1, 7, 7)}
		})
	}
	want := counterOf(start())
	if c := mustKeep(t, start(), nil); want.Hour != 2 || !sameCounter(c, want) {
		t.Errorf("%v, not %v", c, want)
	}
	lines := []string{"at 4", "load 33 -1 2", "test 8 9 0 1", "empty 0 -2 0", "pass 0 5 2", "tip 1 0 0 1 2", "clean 1", "take 0 100 150", "at 6", "take 1 7 9", "cash 1 70", "bank 0 8", "find 0", "at 5", "cash 1 31", "tip 4 0 0 1 2"}
	c := mustKeep(t, start(), lines)
	want.Hour = 6
	want.Log.Events = append(want.Log.Events, api.Event{Kind: api.EventLoad, Shown: 33, Change: rng(-1, 2)}, api.Event{Kind: api.EventTest, Load: 8, Shown: 9, Change: rng(0, 1)}, api.Event{Kind: api.EventEmpty, Change: rng(-2, 0)})
	want.Site.Doings = append(want.Site.Doings, pass(0, 5, 2), tip(1, 0), api.Doing{Kind: api.DoClean, A: 1})
	want.Ground.Acts = append(want.Ground.Acts, tipped(4, 0, 0, 500, 500), taken(4, 0, 100, 150), taken(6, 1, 7, 9))
	want.Till.Dues = append(want.Till.Dues, cash(5, 1, 70), bank(5, 0, 8))
	if !sameCounter(c, want) {
		t.Errorf("%v, not %v", c, want)
	}
	found := withO(func(o *api.Office) { o.Site.Doings = []api.Doing{tip(1, 1)} })
	if c := mustKeep(t, found, []string{"find 1", "at 72"}); c.Hour != 72 || !slices.Equal(c.Site.Doings, []api.Doing{tip(1, 1), {Kind: api.DoFind, A: 1}}) {
		t.Errorf("%v", c)
	}
}

// TestP10_4Report: what is told after a book.
func TestP10_4Report(t *testing.T) {
	poor := withO(func(o *api.Office) {
		o.Till.Dues = []api.Due{cash(5, 0, 101)}
		o.Site.Doings = []api.Doing{tip(1, 1)}
		o.Ground.Acts = []api.Act{tipped(2, 1, 0, 3, 4)}
	})
	below := withO(func(o *api.Office) { o.Log.Zero = rng(-5, 5) })
	for _, c := range []struct {
		name  string
		o     api.Office
		lines []string
		want  []string
	}{
		{"O", officeO(), nil, []string{"hour 0", "lorry 0 unsure", "lorry 1 unsure", "spot 0 0 0 nowhere", "spot 1 0 0 nowhere", "name 0 100", "name 1 100", "end 0"}},
		{
			"the example", officeO(),
			[]string{"empty 1 0 0", "load 601 0 0", "load 101 0 0", "pass 0 0 2", "pass 0 1 8", "tip 0 0 0 1 2", "at 3", "take 0 100 150", "cash 0 80"},
			[]string{"hour 3", "event 0 1 1", "event 1 1 1", "event 2 1 1", "lorry 0 nowhere", "lorry 1 always", "spot 0 350 400 nowhere", "spot 1 0 0 nowhere", "name 0 20", "name 1 100", "end 2"},
		},
		{"a law that is broken", poor, []string{"load 50 0 1"}, []string{"hour 2", "event 0 0 3", "lorry 0 unsure", "lorry 1 unsure", "spot 0 0 0 nowhere", "spot 1 3 4 unsure", "name 0 error 13", "name 1 error 13", "end 1"}},
		{"found", poor, []string{"find 1", "at 5"}, []string{"hour 5", "lorry 0 nowhere", "lorry 1 always", "spot 0 0 0 nowhere", "spot 1 3 4 always", "name 0 error 13", "name 1 error 13", "end 1"}},
		{"known later", below, []string{"load 50 -1 0", "empty -4 0 0"}, []string{"hour 0", "event 0 -4 -4", "event 1 -4 -4", "lorry 0 unsure", "lorry 1 unsure", "spot 0 0 0 nowhere", "spot 1 0 0 nowhere", "name 0 100", "name 1 100", "end 0"}},
		{"refused", below, []string{"empty 6 0 0", "x", "at 73", "load 9 0 0"}, []string{"hour 0", "event 0 -5 5", "lorry 0 unsure", "lorry 1 unsure", "spot 0 0 0 nowhere", "spot 1 0 0 nowhere", "name 0 100", "name 1 100", "end 0"}},
	} {
		if text := mustReport(t, c.o, c.lines); text != bookOf(c.want) {
			t.Errorf("%s: %q, not %q", c.name, text, c.want)
		}
	}
}

// roomy returns a list with much room behind it, so that what is written there is seen.
func roomy[T any](list []T) []T { return append(make([]T, 0, len(list)+30), list...) }

// isRoomy tells whether a list is as it was, and nothing was written behind it.
func isRoomy[T comparable](list, was []T) bool {
	return slices.Equal(list[:len(was)+30], append(slices.Clone(was), make([]T, 30)...))
}

// TestRules: no argument is changed or kept, and no result shares memory (R2, R4).
func TestRules(t *testing.T) {
	start := func() api.Office {
		return also(lorries(5), func(o *api.Office) {
			o.Till.Links, o.Till.Dues = []api.Link{{A: 0, B: 1}}, []api.Due{bank(5, 1, 3)}
			o.Ground.Acts = []api.Act{tipped(2, 1, 0, 7, 7)}
		})
	}
	o, was := start(), start()
	o.Log.Events, o.Site.Gates, o.Site.Doings = roomy(o.Log.Events), roomy(o.Site.Gates), roomy(o.Site.Doings)
	o.Ground.Spots, o.Ground.Sorts, o.Ground.Acts = roomy(o.Ground.Spots), roomy(o.Ground.Sorts), roomy(o.Ground.Acts)
	o.Till.Links, o.Till.Dues = roomy(o.Till.Links), roomy(o.Till.Dues)
	lines := []string{"load 33 -1 2", "pass 0 5 2", "tip 1 0 0 1 2", "take 0 100 150", "cash 1 70", "bank 0 8", "at 9"}
	replies, report, kept := mustRun(t, o, lines), mustReport(t, o, lines), mustKeep(t, start(), lines)
	for range 3 {
		clerk.Check(o)
		c, bare := mustKeep(t, o, lines), mustKeep(t, o, nil)
		if !slices.Equal(mustRun(t, o, lines), replies) || mustReport(t, o, lines) != report || !sameCounter(c, kept) || !sameCounter(bare, counterOf(was)) {
			t.Fatal("two results share memory, or something is kept")
		}
		for _, d := range []api.Counter{c, bare} {
			d.Log.Events[0], d.Site.Gates[0], d.Site.Doings[0] = api.Event{}, api.Gate{}, api.Doing{}
			d.Ground.Spots[0], d.Ground.Sorts[0], d.Ground.Acts[0] = api.Spot{}, api.Sort{}, api.Act{}
			d.Till.Links[0], d.Till.Dues[0] = api.Link{}, api.Due{}
		}
	}
	isLog := isRoomy(o.Log.Events, was.Log.Events)
	isSite := isRoomy(o.Site.Gates, was.Site.Gates) && isRoomy(o.Site.Doings, was.Site.Doings)
	isGround := isRoomy(o.Ground.Spots, was.Ground.Spots) && isRoomy(o.Ground.Sorts, was.Ground.Sorts) && isRoomy(o.Ground.Acts, was.Ground.Acts)
	isTill := isRoomy(o.Till.Links, was.Till.Links) && isRoomy(o.Till.Dues, was.Till.Dues)
	if !isLog || !isSite || !isGround || !isTill {
		t.Error("an argument was changed", isLog, isSite, isGround, isTill)
	}
}

// wild returns a random number, often one at a bound or far beyond.
func wild(r *rand.Rand) int {
	list := []int{0, 0, 0, 1, 1, 2, 2, 3, -1, 4, 5, 6, 9, 14, 15, 72, 73, 100, 200, 201, 4000, 4001, 10000, 60000, 60001, 1000000, math.MaxInt, math.MinInt, math.MaxInt32, math.MinInt32}
	return list[r.Intn(len(list))]
}

// wildOffice returns an office with some wild numbers.
func wildOffice(r *rand.Rand) api.Office {
	o := randomOffice(r)
	for range r.Intn(3) {
		switch r.Intn(11) {
		case 0:
			o.Log.Step, o.Log.Zero = wild(r), rng(wild(r), wild(r))
		case 1:
			o.Log.Events = append(o.Log.Events, api.Event{Kind: wild(r), Shown: wild(r), Load: wild(r), Change: rng(wild(r), wild(r))})
		case 2:
			o.Site.Lorries, o.Site.Piles = wild(r), wild(r)
		case 3:
			o.Site.Source, o.Site.Most = rng(wild(r), wild(r)), wild(r)
		case 4:
			o.Site.Gates = append(o.Site.Gates, api.Gate{Back: rng(wild(r), wild(r)), Wander: wild(r)})
		case 5:
			o.Site.Doings = append(o.Site.Doings, api.Doing{Kind: wild(r), A: wild(r), B: wild(r), Count: wild(r)})
		case 6:
			o.Ground.Spots = append(o.Ground.Spots, api.Spot{X: wild(r), Y: wild(r), Area: wild(r)})
		case 7:
			o.Ground.Sorts = append(o.Ground.Sorts, api.Sort{High: wild(r), Dense: wild(r), Fire: wild(r), Age: wild(r)})
		case 8:
			o.Ground.Acts = append(o.Ground.Acts, api.Act{Hour: wild(r), Spot: wild(r), Sort: wild(r), Mass: rng(wild(r), wild(r)), Take: r.Intn(2) == 0})
		case 9:
			o.Till = api.Till{Names: wild(r), Limit: wild(r), Window: wild(r), Links: []api.Link{{A: wild(r), B: wild(r)}}, Dues: []api.Due{cash(wild(r), wild(r), wild(r))}}
		case 10:
			o.Day = wild(r)
		}
	}
	return o
}

// TestP1: no call panics, whatever the arguments are.
func TestP1(t *testing.T) {
	r := rand.New(rand.NewSource(1))
	words := []string{"at", "empty", "test", "load", "pass", "find", "clean", "net", "tip", "take", "cash", "bank", "mass", "suspects", "breaks", "room", "end", "\xff"}
	clerk.Check(api.Office{})
	clerk.Report(api.Office{}, "breaks\n")
	for range 3000 {
		o, book := wildOffice(r), ""
		for range r.Intn(40) {
			book += words[r.Intn(len(words))]
			for range r.Intn(6) {
				book += " " + numbersOf(wild(r))
			}
			book += "\n"
		}
		clerk.Check(o)
		clerk.Run(o, book)
		clerk.Keep(o, book)
		clerk.Report(o, book)
		clerk.Run(o, bookOf([]string{oddLine(r), oddLine(r)}))
	}
}

// TestP1Long: the longest books come to an end in an office in which much may be.
func TestP1Long(t *testing.T) {
	o := withO(func(o *api.Office) {
		o.Log = api.Log{Step: 100, Zero: rng(-200, 200), Events: slices.Repeat([]api.Event{{Kind: api.EventLoad, Shown: 500, Change: rng(-200, 200)}}, 14)}
		o.Site = api.Site{Lorries: 6, Piles: 4, Source: rng(1, 10000), Most: 3, Gates: slices.Repeat([]api.Gate{{Back: rng(0, 10000), Wander: 10000}}, 3)}
		for lorry := range 6 {
			o.Site.Doings = append(o.Site.Doings, tip(lorry, lorry%4))
		}
		for i := range 8 {
			o.Site.Doings = append(o.Site.Doings, api.Doing{Kind: api.DoMove, A: i % 4, B: (i*i + i + 1) % 4})
		}
		o.Ground.Spots = slices.Repeat([]api.Spot{{Area: 1}}, 4)
		o.Ground.Sorts = slices.Repeat([]api.Sort{{High: 1, Dense: 500, Fire: 1}}, 4)
		for i := range 10 {
			o.Ground.Acts = append(o.Ground.Acts, api.Act{Hour: i / 5, Spot: i % 4, Sort: i / 4 % 2 * (1 - i/8), Mass: rng(1, 10), Take: i >= 8})
		}
	})
	o.Site.Doings[13].B = (o.Site.Doings[13].A + 1) % 4
	if e := clerk.Check(o); e != api.OK {
		t.Fatal(e)
	}
	for _, line := range []string{"breaks", "net 0 1", "suspects 0", "take 0 1 1", "tip 0 0 0 0 1", "load 5 0 0", "room 0"} {
		mustRun(t, o, slices.Repeat([]string{line}, 40))
	}
}
