package clerk_test

import (
	"math/rand"
	"regexp"
	"slices"
	"strconv"
	"strings"
	"testing"

	"swarf/api"
	"swarf/bridge"
	"swarf/clerk"
	"swarf/gate"
	"swarf/pay"
	"swarf/pile"
)

// rng returns a range.
func rng(low, high int) api.Range { return api.Range{Min: low, Max: high} }

// officeO is O of the chapter's examples.
func officeO() api.Office {
	return api.Office{
		Log:    api.Log{Step: 1, Zero: rng(0, 2)},
		Site:   api.Site{Lorries: 2, Piles: 2, Source: rng(5, 9), Most: 1, Gates: []api.Gate{{Back: rng(0, 3), Wander: 1}}},
		Ground: api.Ground{Spots: []api.Spot{{Area: 10}, {X: 9, Area: 10}}, Sorts: []api.Sort{{High: 100, Dense: 100, Fire: 5, Age: 72}}},
		Till:   api.Till{Names: 2, Limit: 100, Window: 1},
		Day:    5,
	}
}

// withO returns O with changes.
func withO(changes ...func(o *api.Office)) api.Office {
	o := officeO()
	for _, change := range changes {
		change(&o)
	}
	return o
}

// Events, doings, acts and dues of each kind.
func load(shown int) api.Event { return api.Event{Kind: api.EventLoad, Shown: shown} }

func pass(g, lorry, count int) api.Doing {
	return api.Doing{Kind: api.DoPass, A: g, B: lorry, Count: count}
}

func tip(lorry, spot int) api.Doing { return api.Doing{Kind: api.DoTip, A: lorry, B: spot} }

func tipped(hour, spot, sort, low, high int) api.Act {
	return api.Act{Hour: hour, Spot: spot, Sort: sort, Mass: rng(low, high)}
}

func taken(hour, spot, low, high int) api.Act {
	return api.Act{Hour: hour, Spot: spot, Mass: rng(low, high), Take: true}
}

func cash(day, name, cents int) api.Due {
	return api.Due{Day: day, Name: name, Cents: cents, Cash: true}
}

func bank(day, name, cents int) api.Due { return api.Due{Day: day, Name: name, Cents: cents} }

// copyOffice returns a copy that shares no memory.
func copyOffice(o api.Office) api.Office {
	o.Log.Events = slices.Clone(o.Log.Events)
	o.Site.Gates, o.Site.Doings = slices.Clone(o.Site.Gates), slices.Clone(o.Site.Doings)
	o.Ground.Spots, o.Ground.Sorts, o.Ground.Acts = slices.Clone(o.Ground.Spots), slices.Clone(o.Ground.Sorts), slices.Clone(o.Ground.Acts)
	o.Till.Links, o.Till.Dues = slices.Clone(o.Till.Links), slices.Clone(o.Till.Dues)
	return o
}

func sameLog(a, b api.Log) bool {
	return a.Step == b.Step && a.Zero == b.Zero && slices.Equal(a.Events, b.Events)
}

func sameSite(a, b api.Site) bool {
	isSame := a.Lorries == b.Lorries && a.Piles == b.Piles && a.Source == b.Source && a.Most == b.Most
	return isSame && slices.Equal(a.Gates, b.Gates) && slices.Equal(a.Doings, b.Doings)
}

func sameGround(a, b api.Ground) bool {
	return slices.Equal(a.Spots, b.Spots) && slices.Equal(a.Sorts, b.Sorts) && slices.Equal(a.Acts, b.Acts)
}

func sameTill(a, b api.Till) bool {
	isSame := a.Names == b.Names && a.Limit == b.Limit && a.Window == b.Window
	return isSame && slices.Equal(a.Links, b.Links) && slices.Equal(a.Dues, b.Dues)
}

// sameCounter tells whether two counters are equal.
func sameCounter(a, b api.Counter) bool {
	return a.Hour == b.Hour && sameLog(a.Log, b.Log) && sameSite(a.Site, b.Site) && sameGround(a.Ground, b.Ground) && sameTill(a.Till, b.Till)
}

// counterOf returns the counter of an office before the first line.
func counterOf(o api.Office) api.Counter {
	o = copyOffice(o)
	return api.Counter{Hour: lastHour(o.Ground), Log: o.Log, Site: o.Site, Ground: o.Ground, Till: o.Till}
}

// officeOf returns the office of a day that begins with a counter.
func officeOf(c api.Counter, day int) api.Office {
	return copyOffice(api.Office{Log: c.Log, Site: c.Site, Ground: c.Ground, Till: c.Till, Day: day})
}

// lastHour returns the hour of the last act, 0 if there is none.
func lastHour(g api.Ground) int {
	if len(g.Acts) == 0 {
		return 0
	}
	return g.Acts[len(g.Acts)-1].Hour
}

// mustRun returns the replies of Run, which must be without an error.
func mustRun(t *testing.T, o api.Office, lines []string) []string {
	t.Helper()
	text, e := clerk.Run(o, bookOf(lines))
	if e != api.OK || text != "" && !strings.HasSuffix(text, "\n") || strings.Count(text, "\n") != len(lines) {
		t.Fatalf("%v, %q: %q %d", o, lines, text, e)
	}
	return strings.Split(text, "\n")[:len(lines)]
}

// mustKeep returns what Keep does, which must be without an error.
func mustKeep(t *testing.T, o api.Office, lines []string) api.Counter {
	t.Helper()
	c, e := clerk.Keep(o, bookOf(lines))
	if e != api.OK {
		t.Fatalf("%v, %q: %d", o, lines, e)
	}
	return c
}

// mustReport returns what Report does, which must be without an error.
func mustReport(t *testing.T, o api.Office, lines []string) string {
	t.Helper()
	text, e := clerk.Report(o, bookOf(lines))
	if e != api.OK {
		t.Fatalf("%v, %q: %d", o, lines, e)
	}
	return text
}

// bookOf returns the book of some lines.
func bookOf(lines []string) string {
	book := ""
	for _, line := range lines {
		book += line + "\n"
	}
	return book
}

// linesOf returns the lines of a book.
func linesOf(book string) []string { return strings.Split(book, "\n")[:strings.Count(book, "\n")] }

// isRefused tells whether a reply is an error.
func isRefused(reply string) bool { return strings.HasPrefix(reply, "error ") }

// first returns the first one of two results.
func first[T any](x T, e api.Errno) T { return x }

// second returns the second one of two results.
func second[T any](x T, e api.Errno) api.Errno { return e }

// forms are all lines as the document's table has them; questions are those by which nothing is done.
var (
	forms = []string{
		"at H", "empty S A B", "test L S A B", "load S A B", "pass G L C", "find P", "clean P", "net F B", "tip L P S F B", "take P A B",
		"cash N C", "bank N C", "mass P", "suspects P", "breaks", "room N",
	}
	questions = []string{"net", "mass", "suspects", "breaks", "room"}

	regexpLetters = regexp.MustCompile("[A-Z]")
	form          = regexp.MustCompile(`\A(` + regexpLetters.ReplaceAllString(strings.Join(forms, "|"), "(0|-?[1-9][0-9]{0,5})") + `)\z`)
)

// wordsOf returns the first word and the numbers of a line, if it is one of the forms.
func wordsOf(line string) (word string, n []int, ok bool) {
	if !form.MatchString(line) {
		return "", nil, false
	}
	words := strings.Split(line, " ")
	for _, w := range words[1:] {
		i, _ := strconv.Atoi(w)
		n = append(n, i)
	}
	return words[0], n, true
}

// slip is the slip of net F B.
func slip(f, b int) api.Slip { return api.Slip{Full: []int{f}, Bare: []int{b}} }

// other is another clerk, who does what the document's table says, line by line.
type other struct {
	c   api.Counter
	day int
}

// answer does a line, and returns the reply.
func (o *other) answer(line string) string {
	word, n, ok := wordsOf(line)
	if !ok {
		return "error 2"
	}
	next := counterOf(officeOf(o.c, o.day))
	next.Hour = o.c.Hour
	reply, e := o.try(&next, word, n)
	if e != api.OK {
		return "error " + strconv.Itoa(int(e))
	}
	o.c = next
	return reply
}

// try makes of a counter, which is as that of the clerk, what it is after a line.
func (o *other) try(next *api.Counter, word string, n []int) (string, api.Errno) {
	switch word {
	case "at":
		next.Hour = n[0]
		if n[0] < o.c.Hour || n[0] > 72 {
			return "", api.ErrValue
		}
		return "ok", api.OK
	case "empty", "test", "load":
		return o.show(next, word, n)
	case "pass":
		next.Site.Doings = append(next.Site.Doings, pass(n[0], n[1], n[2]))
		verdicts, e := gate.Lorries(next.Site)
		if e != api.OK {
			return "", e
		}
		return verdictOf(verdicts[n[1]]), api.OK
	case "find":
		next.Site.Doings = append(next.Site.Doings, api.Doing{Kind: api.DoFind, A: n[0]})
		return "ok", second(gate.Lorries(next.Site))
	case "clean":
		next.Site.Doings = append(next.Site.Doings, api.Doing{Kind: api.DoClean, A: n[0]})
		return "ok", second(gate.Lorries(next.Site))
	case "tip":
		return "ok", o.tip(next, n)
	case "take":
		return "ok", o.take(next, n)
	case "cash", "bank":
		return "ok", o.pay(next, word, n)
	}
	return o.ask(word, n)
}

// show adds an event.
func (o *other) show(next *api.Counter, word string, n []int) (string, api.Errno) {
	event := api.Event{Kind: api.EventEmpty}
	switch word {
	case "test":
		event.Kind, event.Load, n = api.EventTest, n[0], n[1:]
	case "load":
		event.Kind = api.EventLoad
	}
	event.Shown, event.Change = n[0], rng(n[1], n[2])
	next.Log.Events = append(next.Log.Events, event)
	return "event " + strconv.Itoa(len(o.c.Log.Events)), second(bridge.Zeros(next.Log))
}

// tip tips a lorry.
func (o *other) tip(next *api.Counter, n []int) api.Errno {
	net, e := bridge.Net(o.c.Log, slip(n[3], n[4]))
	if e != api.OK {
		return e
	}
	next.Site.Doings = append(next.Site.Doings, tip(n[0], n[1]))
	if e := gate.Check(next.Site); e != api.OK {
		return e
	}
	if first(gate.Lorries(o.c.Site))[n[0]] != api.Nowhere {
		return api.ErrHeld
	}
	if net.Min < 1 {
		return api.ErrFew
	}
	room, e := pile.Room(o.c.Ground, o.c.Hour, n[2], net.Max)
	if e != api.OK {
		return e
	}
	if !slices.Contains(room, n[1]) {
		return api.ErrLimit
	}
	next.Ground.Acts = append(next.Ground.Acts, tipped(o.c.Hour, n[1], n[2], net.Min, net.Max))
	return pile.Check(next.Ground)
}

// take takes from a spot.
func (o *other) take(next *api.Counter, n []int) api.Errno {
	next.Ground.Acts = append(next.Ground.Acts, taken(o.c.Hour, n[0], n[1], n[2]))
	if e := pile.Check(next.Ground); e != api.OK {
		return e
	}
	if first(gate.Piles(o.c.Site))[n[0]] != api.Nowhere {
		return api.ErrHeld
	}
	return second(pile.Masses(next.Ground, o.c.Hour))
}

// pay pays in cash, or not.
func (o *other) pay(next *api.Counter, word string, n []int) api.Errno {
	next.Till.Dues = append(next.Till.Dues, api.Due{Day: o.day, Name: n[0], Cents: n[1], Cash: word == "cash"})
	if e := pay.Check(next.Till); e != api.OK {
		return e
	}
	if word == "cash" && first(pay.Lawful(next.Till)) != api.Always {
		return api.ErrLimit
	}
	return api.OK
}

// ask answers a question.
func (o *other) ask(word string, n []int) (string, api.Errno) {
	switch word {
	case "net":
		net, e := bridge.Net(o.c.Log, slip(n[0], n[1]))
		return numbersOf(net.Min, net.Max), e
	case "mass":
		if n[0] < 0 || n[0] >= len(o.c.Ground.Spots) {
			return "", api.ErrUnknown
		}
		mass := first(pile.Masses(o.c.Ground, o.c.Hour))[n[0]]
		return numbersOf(mass.Min, mass.Max), api.OK
	case "suspects":
		lorries, e := gate.Suspects(o.c.Site, n[0])
		if len(lorries) == 0 {
			return "none", e
		}
		return numbersOf(lorries...), e
	case "breaks":
		perhaps, surely, e := pile.Breaks(o.c.Ground)
		return numbersOf(perhaps, surely), e
	case "room":
		cents, e := pay.Room(o.c.Till, n[0], o.day)
		return numbersOf(cents), e
	}
	panic(word)
}

// report returns what Report has to.
func (o *other) report() string {
	lines := []string{"hour " + numbersOf(o.c.Hour)}
	for i, zero := range first(bridge.Zeros(o.c.Log)) {
		lines = append(lines, "event "+numbersOf(i, zero.Min, zero.Max))
	}
	for i, v := range first(gate.Lorries(o.c.Site)) {
		lines = append(lines, "lorry "+numbersOf(i)+" "+verdictOf(v))
	}
	for i, mass := range first(pile.Masses(o.c.Ground, o.c.Hour)) {
		lines = append(lines, "spot "+numbersOf(i, mass.Min, mass.Max)+" "+verdictOf(first(gate.Piles(o.c.Site))[i]))
	}
	for i := range o.c.Till.Names {
		told, e := o.ask("room", []int{i})
		if e != api.OK {
			told = "error " + strconv.Itoa(int(e))
		}
		lines = append(lines, "name "+numbersOf(i)+" "+told)
	}
	return bookOf(append(lines, "end "+numbersOf(len(o.c.Ground.Acts))))
}

// verdictOf returns the word of a verdict.
func verdictOf(v int) string {
	switch v {
	case api.Always:
		return "always"
	case api.Nowhere:
		return "nowhere"
	case api.Unsure:
		return "unsure"
	}
	panic(v)
}

// numbersOf returns numbers with blanks between them.
func numbersOf(list ...int) string {
	var words []string
	for _, n := range list {
		words = append(words, strconv.Itoa(n))
	}
	return strings.Join(words, " ")
}

// between returns a random number from low to high.
func between(r *rand.Rand, low, high int) int { return low + r.Intn(high-low+1) }

// near returns a random range near to 0.
func near(r *rand.Rand, wide int) api.Range { return rng(-r.Intn(wide+1), r.Intn(wide+1)) }

// randomOffice returns a random valid office.
func randomOffice(r *rand.Rand) api.Office {
	for {
		o := api.Office{Log: randomLog(r), Site: randomSite(r), Till: randomTill(r), Day: between(r, 5, 8)}
		o.Ground = randomGround(r, o.Site.Piles)
		if r.Intn(6) == 0 {
			fill(r, &o)
		}
		if clerk.Check(o) == api.OK {
			return o
		}
	}
}

// fill adds to one of the lists of an office so much that hardly more can be added.
func fill(r *rand.Rand, o *api.Office) {
	spot := r.Intn(o.Site.Piles)
	switch r.Intn(4) {
	case 0:
		for len(o.Log.Events) < between(r, 11, 14) {
			o.Log.Events = append(o.Log.Events, api.Event{Kind: api.EventLoad, Shown: o.Log.Step * between(r, 10, 200), Change: near(r, 1)})
		}
	case 1:
		for len(o.Site.Doings) < between(r, 11, 14) {
			o.Site.Doings = append(o.Site.Doings, api.Doing{Kind: api.DoClean, A: spot})
		}
	case 2:
		for len(o.Ground.Acts) < between(r, 7, 10) {
			o.Ground.Acts = append(o.Ground.Acts, tipped(lastHour(o.Ground), spot, 0, 1, 5))
		}
	case 3:
		for len(o.Till.Dues) < between(r, 17, 20) {
			o.Till.Dues = append(o.Till.Dues, bank(5, 0, 1))
		}
	}
}

func randomLog(r *rand.Rand) api.Log {
	l := api.Log{Step: between(r, 1, 3), Zero: near(r, 2)}
	for range r.Intn(3) {
		event := load(l.Step * between(r, 10, 200))
		event.Change = near(r, 1)
		l.Events = append(l.Events, event)
	}
	return l
}

func randomSite(r *rand.Rand) api.Site {
	s := api.Site{Lorries: between(r, 1, 6), Piles: between(r, 1, 4), Most: r.Intn(3), Source: rng(4, between(r, 4, 7))}
	for range between(r, 1, 2) {
		s.Gates = append(s.Gates, api.Gate{Back: rng(between(r, 0, 1), between(r, 1, 3)), Wander: r.Intn(2)})
	}
	for range r.Intn(4) {
		doing := api.Doing{Kind: between(r, api.DoPass, api.DoClean), A: r.Intn(s.Piles)}
		switch doing.Kind {
		case api.DoPass:
			doing = pass(r.Intn(len(s.Gates)), r.Intn(s.Lorries), r.Intn(8))
		case api.DoTip:
			doing = tip(r.Intn(s.Lorries), r.Intn(s.Piles))
		case api.DoMove:
			doing.B = r.Intn(s.Piles)
		}
		s.Doings = append(s.Doings, doing)
	}
	return s
}

func randomGround(r *rand.Rand, spots int) api.Ground {
	var g api.Ground
	for range spots {
		g.Spots = append(g.Spots, api.Spot{X: r.Intn(10), Y: r.Intn(10), Area: between(r, 2, 12)})
	}
	for range between(r, 1, 2) {
		g.Sorts = append(g.Sorts, api.Sort{High: 100, Dense: between(r, 50, 150), Fire: r.Intn(6), Age: between(r, 5, 72)})
	}
	hour := 0
	for range r.Intn(4) {
		hour += r.Intn(3)
		low, spot := between(r, 1, 300), r.Intn(spots)
		if r.Intn(3) > 0 {
			g.Acts = append(g.Acts, tipped(hour, spot, r.Intn(len(g.Sorts)), low, low+r.Intn(50)))
		} else {
			g.Acts = append(g.Acts, taken(hour, spot, low, low+r.Intn(50)))
		}
	}
	return g
}

func randomTill(r *rand.Rand) api.Till {
	t := api.Till{Names: between(r, 1, 4), Limit: between(r, 20, 200), Window: between(r, 1, 4)}
	for a := range t.Names {
		for b := range a {
			if r.Intn(4) == 0 {
				t.Links = append(t.Links, api.Link{A: a, B: b, Sure: r.Intn(2) == 0})
			}
		}
	}
	day := 2
	for range r.Intn(4) {
		day += r.Intn(2)
		t.Dues = append(t.Dues, api.Due{Day: day, Name: r.Intn(t.Names), Cents: r.Intn(80), Cash: r.Intn(2) == 0})
	}
	return t
}

// randomLines returns random lines of a book for an office, most of which are done.
func randomLines(r *rand.Rand, o api.Office, most int) []string {
	var lines []string
	follow := other{c: counterOf(o), day: o.Day}
	for range r.Intn(most + 1) {
		line := randomLine(r, follow.c)
		follow.answer(line)
		lines = append(lines, line)
	}
	return lines
}

// randomLine returns a random line for a counter.
func randomLine(r *rand.Rand, c api.Counter) string {
	lorry, spot, name := r.Intn(c.Site.Lorries), r.Intn(c.Site.Piles), r.Intn(c.Till.Names)
	change := near(r, 1)
	switch x := r.Intn(100); {
	case x < 4:
		return "at " + numbersOf(c.Hour+r.Intn(6)-1)
	case x < 8:
		return "empty " + numbersOf(c.Log.Step*(r.Intn(5)-2), change.Min, change.Max)
	case x < 10:
		return "test " + numbersOf(100, c.Log.Step*(100/c.Log.Step+r.Intn(5)-2), change.Min, change.Max)
	case x < 25:
		return "load " + numbersOf(c.Log.Step*between(r, 1, 200), change.Min, change.Max)
	case x < 43:
		return "pass " + numbersOf(r.Intn(len(c.Site.Gates)), lorry, r.Intn(6)*r.Intn(3))
	case x < 48:
		return []string{"find ", "clean "}[r.Intn(2)] + numbersOf(spot)
	case x < 68:
		f, b := randomWeighing(r, c.Log)
		return "tip " + numbersOf(randomLorry(r, c.Site), spot, r.Intn(len(c.Ground.Sorts)), f, b)
	case x < 78:
		low := between(r, 1, 200)
		return "take " + numbersOf(spot, low, low+r.Intn(50))
	case x < 86:
		return "cash " + numbersOf(name, r.Intn(60))
	case x < 89:
		return "bank " + numbersOf(name, r.Intn(600))
	case x < 97:
		return randomQuestion(r, c)
	}
	return oddLine(r)
}

// randomLorry returns a lorry, mostly one that surely carried no source.
func randomLorry(r *rand.Rand, s api.Site) int {
	lorry := r.Intn(s.Lorries)
	if harmless := slices.Index(first(gate.Lorries(s)), api.Nowhere); harmless >= 0 && r.Intn(2) == 0 {
		return harmless
	}
	return lorry
}

// randomWeighing returns two events, mostly such that the first one is heavier.
func randomWeighing(r *rand.Rand, l api.Log) (f, b int) {
	f, b = r.Intn(len(l.Events)+1), r.Intn(len(l.Events)+1)
	if heavy := slices.IndexFunc(l.Events, func(x api.Event) bool { return x.Kind == api.EventLoad && x.Shown > 200 }); heavy >= 0 && r.Intn(2) == 0 {
		f = heavy
	}
	if f < len(l.Events) && b < len(l.Events) && l.Events[f].Shown < l.Events[b].Shown && r.Intn(8) > 0 {
		return b, f
	}
	return f, b
}

// randomQuestion returns a random line by which nothing is done.
func randomQuestion(r *rand.Rand, c api.Counter) string {
	switch word := questions[r.Intn(len(questions))]; word {
	case "net":
		return word + " " + numbersOf(randomWeighing(r, c.Log))
	case "breaks":
		return word
	case "room":
		return word + " " + numbersOf(r.Intn(c.Till.Names+1))
	default:
		return word + " " + numbersOf(r.Intn(c.Site.Piles+1))
	}
}

// oddLine returns a random line that hardly ever is done.
func oddLine(r *rand.Rand) string {
	parts := []string{"at", "tip", "take", "mass", "breaks", "room", " ", " ", " ", " ", "0", "1", "1", "2", "-", "+", "00", "999999", "1000000", "x", "A", "\xff", "\x00", "٣", "\r", "\t"}
	line := ""
	for range r.Intn(8) {
		line += parts[r.Intn(len(parts))]
	}
	return line
}
