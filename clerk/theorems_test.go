package clerk_test

import (
	"math/rand"
	"slices"
	"strings"
	"testing"

	"swarf/api"
	"swarf/bridge"
	"swarf/clerk"
	"swarf/gate"
	"swarf/pay"
	"swarf/pile"
)

// randomDay returns a random office, and random lines of a book for it.
func randomDay(r *rand.Rand) (api.Office, []string) {
	o := randomOffice(r)
	return o, randomLines(r, o, 40)
}

// goingOn returns the line by which the hour of an office becomes that of the counter of which it was made. An office has no hour of its own: it begins at that of the last act.
func goingOn(c api.Counter) []string {
	if c.Hour == lastHour(c.Ground) {
		return nil
	}
	return []string{"at " + numbersOf(c.Hour)}
}

// TestP10_5OneByOne: a book and another one behind it have the replies of the first one, and then those of the second one for the office as the first one left it.
func TestP10_5OneByOne(t *testing.T) {
	r := rand.New(rand.NewSource(5))
	done, later := 0, 0
	for range 1500 {
		o := randomOffice(r)
		all := randomLines(r, o, 40)
		at := r.Intn(len(all) + 1)
		left := mustKeep(t, o, all[:at])
		more := goingOn(left)
		if len(more) > 0 && at == 0 {
			t.Fatalf("%v: %d at first", o, left.Hour)
		}
		next := officeOf(left, o.Day)
		replies := mustRun(t, next, append(more, all[at:]...))[len(more):]
		replies = append(mustRun(t, o, all[:at]), replies...)
		if whole := mustRun(t, o, all); !slices.Equal(whole, replies) {
			t.Fatalf("%v, %q, %q: %q, not %q", o, all[:at], all[at:], replies, whole)
		}
		if a, b := mustKeep(t, o, all), mustKeep(t, next, append(more, all[at:]...)); !sameCounter(a, b) {
			t.Fatalf("%v, %q, %q: %v, not %v", o, all[:at], all[at:], b, a)
		}
		done += len(all)
		later += len(more)
	}
	if done < 10000 || later < 100 {
		t.Error("too few books were looked at", done, later)
	}
}

// TestP10_6Asked: lines that ask change nothing, wherever they are.
func TestP10_6Asked(t *testing.T) {
	r := rand.New(rand.NewSource(6))
	asked, answered := make(map[string]int), 0
	for range 1500 {
		o, lines := randomDay(r)
		lines = lines[:min(len(lines), 20)]
		var more []string
		var isMore []bool
		for at := range len(lines) + 1 {
			for range r.Intn(2) {
				line := randomQuestion(r, mustKeep(t, o, lines[:at]))
				word, _, _ := strings.Cut(line, " ")
				asked[word]++
				more, isMore = append(more, line), append(isMore, true)
			}
			if at < len(lines) {
				more, isMore = append(more, lines[at]), append(isMore, false)
			}
		}
		more, isMore = more[:min(len(more), 40)], isMore[:min(len(more), 40)]
		var rest []string
		for i, reply := range mustRun(t, o, more) {
			if !isMore[i] {
				rest = append(rest, reply)
			} else if !isRefused(reply) {
				answered++
			}
		}
		lines = lines[:len(rest)]
		if replies := mustRun(t, o, lines); !slices.Equal(rest, replies) {
			t.Fatalf("%v, %q: %q, but with questions %q: %q", o, lines, replies, more, rest)
		}
		if a, b := mustKeep(t, o, lines), mustKeep(t, o, more); !sameCounter(a, b) {
			t.Fatalf("%v, %q: %v, but with questions %q: %v", o, lines, a, more, b)
		}
	}
	if len(asked) != len(questions) || answered < 3000 {
		t.Error("too few questions were asked", asked, answered)
	}
}

// TestP10_7Told: what is told is what the other clerk tells, who asks the chapters 1, 3, 5 and 8; and so are the counter and the report.
func TestP10_7Told(t *testing.T) {
	r := rand.New(rand.NewSource(7))
	done, refused := make(map[string]int), make(map[string]int)
	for range 3000 {
		o, lines := randomDay(r)
		clerk2 := other{c: counterOf(o), day: o.Day}
		for i, reply := range mustRun(t, o, lines) {
			if want := clerk2.answer(lines[i]); reply != want {
				t.Fatalf("%v, %q: %q to %q, not %q", o, lines[:i], reply, lines[i], want)
			}
			word, _, ok := wordsOf(lines[i])
			if isRefused(reply) {
				refused[word+" "+reply]++
			} else if ok {
				done[word]++
			}
		}
		if c := mustKeep(t, o, lines); !sameCounter(c, clerk2.c) {
			t.Fatalf("%v, %q: %v, not %v", o, lines, c, clerk2.c)
		}
		if text := mustReport(t, o, lines); text != clerk2.report() {
			t.Fatalf("%v, %q: %q, not %q", o, lines, text, clerk2.report())
		}
	}
	for _, form := range forms {
		if word, _, _ := strings.Cut(form, " "); done[word] < 50 {
			t.Error("too few lines were done", word, done[word])
		}
	}
	for _, reply := range []string{" error 2", "at error 1", "empty error 9", "test error 9", "load error 6", "pass error 9", "pass error 6", "find error 9", "clean error 9", "tip error 3", "tip error 4", "tip error 6", "tip error 7", "tip error 13", "tip error 15", "take error 6", "take error 9", "take error 15", "cash error 6", "cash error 13", "bank error 6", "suspects error 3", "mass error 3", "room error 3", "room error 13"} {
		if refused[reply] < 10 {
			t.Error("too few lines were refused", reply, refused[reply])
		}
	}
}

// step is a line that was done: the counter before it, its word, and its numbers.
type step struct {
	before api.Counter
	word   string
	n      []int
}

// stepsOf returns the lines of a book that are done, and were not questions.
func stepsOf(t *testing.T, o api.Office, lines []string) []step {
	t.Helper()
	var list []step
	for i, reply := range mustRun(t, o, lines) {
		word, n, _ := wordsOf(lines[i])
		if !isRefused(reply) && !slices.Contains(questions, word) {
			list = append(list, step{before: mustKeep(t, o, lines[:i]), word: word, n: n})
		}
	}
	return list
}

// TestP10_8Safe: each lorry that is tipped surely carries no source, each take is from a pile in which there surely is none, the law is kept in every truth if it was, and each tape is one that may be.
func TestP10_8Safe(t *testing.T) {
	r := rand.New(rand.NewSource(8))
	tips, takes, lawful, paid := 0, 0, 0, 0
	for range 1500 {
		o, lines := randomDay(r)
		c := mustKeep(t, o, lines)
		if e := clerk.Check(officeOf(c, o.Day)); e != api.OK {
			t.Fatalf("%v, %q: %v may not be: %d", o, lines, c, e)
		}
		for _, s := range stepsOf(t, o, lines) {
			switch s.word {
			case "tip":
				tips++
				if first(gate.Lorries(s.before.Site))[s.n[0]] != api.Nowhere || first(gate.Lorries(c.Site))[s.n[0]] != api.Nowhere {
					t.Fatalf("%v, %q: %d was tipped", o, lines, s.n[0])
				}
			case "take":
				takes++
				if first(gate.Piles(s.before.Site))[s.n[0]] != api.Nowhere {
					t.Fatalf("%v, %q: was taken from %d", o, lines, s.n[0])
				}
			case "cash":
				paid++
			}
		}
		if first(pay.Lawful(o.Till)) == api.Always {
			lawful++
			if first(pay.Lawful(c.Till)) != api.Always {
				t.Fatalf("%v, %q: the law is not kept by %v", o, lines, c.Till)
			}
		}
	}
	if tips < 500 || takes < 500 || lawful < 500 || paid < 500 {
		t.Error("too few lines were done", tips, takes, lawful, paid)
	}
}

// TestP10_9Balance: what lies on each spot, and on all of them, is what was there, with the net weights of all lorries that were tipped there, and without what was taken, where no take takes more than there is.
func TestP10_9Balance(t *testing.T) {
	r := rand.New(rand.NewSource(9))
	tips, takes, together, wide := 0, 0, 0, 0
	for range 1500 {
		o, lines := randomDay(r)
		want := first(pile.Masses(o.Ground, api.MaxHours))
		steps := stepsOf(t, o, lines)
		hasTip, hasTake := false, false
		for _, s := range steps {
			switch s.word {
			case "tip":
				tips++
				hasTip = true
				net := first(bridge.Net(s.before.Log, slip(s.n[3], s.n[4])))
				want[s.n[1]] = rng(want[s.n[1]].Min+net.Min, want[s.n[1]].Max+net.Max)
				if net.Min < net.Max {
					wide++
				}
			case "take":
				takes++
				hasTake = true
				want[s.n[0]] = rng(max(0, want[s.n[0]].Min-s.n[2]), want[s.n[0]].Max-s.n[1])
			}
		}
		if hasTip && hasTake {
			together++
		}
		c := mustKeep(t, o, lines)
		if masses := first(pile.Masses(c.Ground, c.Hour)); !slices.Equal(masses, want) {
			t.Fatalf("%v, %q: %v, not %v", o, lines, masses, want)
		}
		for spot, mass := range want {
			line := "mass " + numbersOf(spot)
			if reply := mustRun(t, officeOf(c, o.Day), []string{line}); reply[0] != numbersOf(mass.Min, mass.Max) {
				t.Fatalf("%v, %q: %q, not %v", o, lines, reply, mass)
			}
		}
	}
	if tips < 500 || takes < 500 || together < 150 || wide < 200 {
		t.Error("too few lines were done", tips, takes, together, wide)
	}
}

// TestP10_10Refused: lines that are refused may be left out, all of them or one, and all other replies stay.
func TestP10_10Refused(t *testing.T) {
	r := rand.New(rand.NewSource(10))
	refused := 0
	for range 1500 {
		o, lines := randomDay(r)
		replies := mustRun(t, o, lines)
		c := mustKeep(t, o, lines)
		one := r.Intn(len(lines) + 1)
		for _, isAll := range []bool{true, false} {
			var rest, want []string
			for i, reply := range replies {
				if isRefused(reply) && (isAll || i == one) {
					refused++
					continue
				}
				rest, want = append(rest, lines[i]), append(want, reply)
			}
			if again := mustRun(t, o, rest); !slices.Equal(again, want) {
				t.Fatalf("%v, %q: %q, but %q: %q", o, lines, replies, rest, again)
			}
			if d := mustKeep(t, o, rest); !sameCounter(c, d) {
				t.Fatalf("%v, %q: %v, but %q: %v", o, lines, c, rest, d)
			}
		}
	}
	if refused < 5000 {
		t.Error("too few lines were refused", refused)
	}
}

// isBegin tells whether a list is the beginning of another one.
func isBegin[T comparable](list, longer []T) bool {
	return len(list) <= len(longer) && slices.Equal(list, longer[:len(list)])
}

// TestP10_11Hours: no act is added before an act that is there, nor is anything else, and the hour never goes back, nor beyond the last one.
func TestP10_11Hours(t *testing.T) {
	r := rand.New(rand.NewSource(11))
	acts, hours := 0, 0
	for range 500 {
		o, lines := randomDay(r)
		before := counterOf(o)
		for i := range len(lines) + 1 {
			c := mustKeep(t, o, lines[:i])
			isKept := isBegin(before.Log.Events, c.Log.Events) && isBegin(before.Site.Doings, c.Site.Doings) && isBegin(before.Ground.Acts, c.Ground.Acts) && isBegin(before.Till.Dues, c.Till.Dues)
			if !isKept || c.Hour < before.Hour || c.Hour > api.MaxHours || c.Hour < lastHour(c.Ground) {
				t.Fatalf("%v, %q: %v after %v", o, lines[:i], c, before)
			}
			for _, act := range c.Ground.Acts[len(before.Ground.Acts):] {
				acts++
				if act.Hour != before.Hour {
					t.Fatalf("%v, %q: %v at %d", o, lines[:i], act, before.Hour)
				}
			}
			hours += c.Hour - before.Hour
			before = c
		}
	}
	if acts < 300 || hours < 500 {
		t.Error("too few acts were added", acts, hours)
	}
}

// reread returns an office with the tapes of a counter, written and read again.
func reread(t *testing.T, c api.Counter, day int) api.Office {
	t.Helper()
	tape, e1 := bridge.Write(c.Log)
	journal, e2 := gate.Write(c.Site)
	sheet, e3 := pile.Write(c.Ground)
	account, e4 := pay.Account(c.Till)
	o := api.Office{Day: day}
	var f1, f2, f3, f4 api.Errno
	o.Log, _, f1 = bridge.Read(tape)
	o.Site, _, f2 = gate.Read(journal)
	o.Ground, _, f3 = pile.Read(sheet)
	o.Till, _, f4 = pay.Parse(account)
	for _, e := range []api.Errno{e1, e2, e3, e4, f1, f2, f3, f4} {
		if e != api.OK {
			t.Fatalf("%v: %d", c, e)
		}
	}
	return o
}

// TestP10_12Replayed: with the tape, the journal, the sheet and the till that were written after a book, and read again, another book has the same replies as behind the first one.
func TestP10_12Replayed(t *testing.T) {
	r := rand.New(rand.NewSource(12))
	lines := 0
	for range 1000 {
		o := randomOffice(r)
		book := randomLines(r, o, 20)
		c := mustKeep(t, o, book)
		again := reread(t, c, o.Day)
		if back := counterOf(again); !sameLog(back.Log, c.Log) || !sameSite(back.Site, c.Site) || !sameGround(back.Ground, c.Ground) || !sameTill(back.Till, c.Till) {
			t.Fatalf("%v, %q: %v, but read again %v", o, book, c, back)
		}
		other := append(goingOn(c), randomLines(r, officeOf(c, o.Day), 19)...)
		lines += len(other)
		replies, want := mustRun(t, again, other), mustRun(t, officeOf(c, o.Day), other)
		behind := mustRun(t, o, append(book, other...))[len(book):]
		if !slices.Equal(replies, want) || !slices.Equal(replies, behind) {
			t.Fatalf("%v, %q, %q: %q, but replayed %q, behind %q", o, book, other, want, replies, behind)
		}
		if a, b := mustReport(t, again, other), mustReport(t, o, append(book, other...)); a != b {
			t.Fatalf("%v, %q, %q: %q, but replayed %q", o, book, other, b, a)
		}
	}
	if lines < 5000 {
		t.Error("too few lines were looked at", lines)
	}
}

// Where a source may be that is in no pile.
const (
	never  = -2
	aboard = -1
)

// history goes through all truths of a site, doing by doing; at is where the source of each lorry is, backs what the background of each gate may have been at its last pass, nil before the first one. When a truth is complete, visit gets where all sources were after each number of doings.
type history struct {
	s     api.Site
	at    []int
	backs [][]int
	past  [][]int
	visit func(past [][]int)
}

// histories goes through all truths of a site.
func histories(s api.Site, visit func(past [][]int)) {
	for which := range 1 << s.Lorries {
		h := history{s: s, backs: make([][]int, len(s.Gates)), visit: visit}
		sources := 0
		for lorry := range s.Lorries {
			h.at = append(h.at, never)
			if which>>lorry&1 == 1 {
				h.at[lorry] = aboard
				sources++
			}
		}
		if sources <= s.Most {
			h.from(0)
		}
	}
}

// from goes through all that may be from a doing on.
func (h history) from(i int) {
	h.past = append(slices.Clone(h.past), slices.Clone(h.at))
	if i == len(h.s.Doings) {
		h.visit(h.past)
		return
	}
	h.at = slices.Clone(h.at)
	doing := h.s.Doings[i]
	switch doing.Kind {
	case api.DoPass:
		h.backs = slices.Clone(h.backs)
		h.backs[doing.A] = h.backgrounds(doing)
		if len(h.backs[doing.A]) > 0 {
			h.from(i + 1)
		}
	case api.DoTip:
		if h.at[doing.A] == aboard {
			h.at[doing.A] = doing.B
		}
		h.from(i + 1)
	case api.DoMove:
		h.move(i, doing, 0)
	default:
		if slices.Contains(h.at, doing.A) == (doing.Kind == api.DoFind) {
			h.from(i + 1)
		}
	}
}

// backgrounds returns what the background may be at a pass.
func (h history) backgrounds(doing api.Doing) []int {
	g := h.s.Gates[doing.A]
	var list []int
	for back := range 40 {
		isNear := back >= g.Back.Min && back <= g.Back.Max
		if last := h.backs[doing.A]; last != nil {
			isNear = slices.ContainsFunc(last, func(b int) bool { return b-back <= g.Wander && back-b <= g.Wander })
		}
		more := doing.Count - back
		isCounted := more == 0
		if h.at[doing.B] == aboard {
			isCounted = more >= h.s.Source.Min && more <= h.s.Source.Max
		}
		if isNear && isCounted {
			list = append(list, back)
		}
	}
	return list
}

// move lets each source in a pile, from that of a lorry on, go along or stay.
func (h history) move(i int, doing api.Doing, lorry int) {
	if lorry == len(h.at) {
		h.from(i + 1)
		return
	}
	h.move(i, doing, lorry+1)
	if h.at[lorry] == doing.A {
		h.at = slices.Clone(h.at)
		h.at[lorry] = doing.B
		h.move(i, doing, lorry+1)
	}
}

// TestT4Shear: in no truth that is left at the end of a day a source came to the shear, and no lorry that was tipped carried one. All truths are gone through.
func TestT4Shear(t *testing.T) {
	r := rand.New(rand.NewSource(44))
	truths, sources, tips, takes, refused := 0, 0, 0, 0, 0
	for range 2000 {
		o, lines := randomDay(r)
		steps := stepsOf(t, o, lines)
		for _, reply := range mustRun(t, o, lines) {
			if reply == "error 15" {
				refused++
			}
		}
		c, before := mustKeep(t, o, lines), truths
		histories(c.Site, func(past [][]int) {
			truths++
			if slices.ContainsFunc(past[0], func(at int) bool { return at == aboard }) {
				sources++
			}
			for _, s := range steps {
				switch s.word {
				case "take":
					takes++
					if at := past[len(s.before.Site.Doings)]; slices.Contains(at, s.n[0]) {
						t.Fatalf("%v, %q: a source in %d, as sources are at %v", o, lines, s.n[0], past)
					}
				case "tip":
					tips++
					if past[0][s.n[0]] == aboard {
						t.Fatalf("%v, %q: a source in the lorry %d, as sources are at %v", o, lines, s.n[0], past)
					}
				}
			}
		})
		if truths == before {
			t.Fatalf("%v, %q: there is no truth", o, lines)
		}
	}
	if truths < 5000 || sources < 2000 || tips < 500 || takes < 1000 || refused < 1000 {
		t.Error("too few truths were looked at", truths, sources, tips, takes, refused)
	}
}
