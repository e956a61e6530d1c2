package pay

import (
	"iter"

	"swarf/api"
)

// none stands for a due, or a day, that is not there.
const none = -1

// verdictOf returns the verdict on what is so in all truths, or in some at least.
func verdictOf(inAll, inSome bool) int {
	switch {
	case inAll:
		return api.Always
	case inSome:
		return api.Unsure
	}
	return api.Nowhere
}

// persons tells of each two names whether they are one person.
type persons [api.MaxNames][api.MaxNames]bool

// allLinks returns the persons of the truth in which all links hold. In no truth is more paid to a person.
func allLinks(t api.Till) persons { return personsBy(t.Links) }

// fewestLinks returns the persons of the truth in which the sure links alone hold. In no truth is less paid to a person.
func fewestLinks(t api.Till) persons {
	var sure []api.Link
	for _, link := range t.Links {
		if link.Sure {
			sure = append(sure, link)
		}
	}
	return personsBy(sure)
}

// personsBy returns the persons if these links hold.
func personsBy(links []api.Link) persons {
	var before persons
	for name := range before {
		before[name][name] = true
	}
	for _, link := range links {
		before[link.A][link.B], before[link.B][link.A] = true, true
	}
	after := before.joined()
	for after != before {
		before, after = after, after.joined()
	}
	return after
}

// joined returns persons by which two names are also one if both are one with a third.
func (p persons) joined() persons {
	more := p
	for a := range p {
		for b := range p {
			for c := range p {
				more[a][b] = more[a][b] || p[a][c] && p[c][b]
			}
		}
	}
	return more
}

// first returns the first one of the names that are one person with a name.
func (p persons) first(name int) int {
	first := 0
	for !p[name][first] {
		first++
	}
	return first
}

// personDay is a day of a person, who has the number of the first name.
type personDay struct{ person, day int }

// ledger is what is paid in cash to each person on each day.
type ledger struct {
	limit, window int
	persons       persons
	sums          map[personDay]int
}

// inCash hands out the dues that are in cash, with their numbers.
func inCash(dues []api.Due) iter.Seq2[int, api.Due] {
	return func(yield func(int, api.Due) bool) {
		for number, due := range dues {
			if due.Cash && !yield(number, due) {
				return
			}
		}
	}
}

// paid returns the ledger of a till and none, or the ledger before the first due that breaks the law, and this due.
func paid(t api.Till, p persons) (l ledger, broken int) {
	l = ledger{limit: t.Limit, window: t.Window, persons: p, sums: make(map[personDay]int)}
	for number, due := range inCash(t.Dues) {
		// No due before is of a later day, so on no day are more of them counted together with this one.
		if l.room(due.Name, due.Day) < due.Cents {
			return l, number
		}
		l.pay(due.Name, due.Day, due.Cents)
	}
	return l, none
}

// lawful returns the ledger of a till to which something is added on a day: ErrLate if a due is of a later day, ErrLimit unless the law is kept in every truth.
func lawful(t api.Till, day int) (ledger, api.Errno) {
	if last := len(t.Dues) - 1; last >= 0 && day < t.Dues[last].Day {
		return ledger{}, api.ErrLate
	}
	l, broken := paid(t, allLinks(t))
	if broken != none {
		return ledger{}, api.ErrLimit
	}
	return l, api.OK
}

// pay takes down what is paid to a name on a day.
func (l ledger) pay(name, day, cents int) {
	l.sums[personDay{l.persons.first(name), day}] += cents
}

// room returns how many cents more the law allows to a name on a day, if nothing is paid later.
func (l ledger) room(name, day int) int {
	person, left := l.persons.first(name), l.limit
	for ago := range l.window {
		left -= l.sums[personDay{person, day - ago}]
	}
	return left
}
