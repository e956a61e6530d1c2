package gate

import (
	"swarf/api"
	"swarf/rows"
)

// The words of the rows of a journal that are neither doings nor the end.
const (
	siteWord = "site"
	gateWord = "gate"
)

// maxNumber is the greatest number of a journal: it has five digits.
const maxNumber = 99999

// Write returns the journal of a site.
func Write(s api.Site) (string, api.Errno) {
	if e := Check(s); e != api.OK {
		return "", e
	}
	text := rows.Write(siteWord, s.Lorries, s.Piles, s.Source.Min, s.Source.Max, s.Most)
	for _, gate := range s.Gates {
		text += rows.Write(gateWord, gate.Back.Min, gate.Back.Max, gate.Wander)
	}
	for _, doing := range s.Doings {
		text += writeDoing(doing)
	}
	return text + rows.Write(rows.End, len(s.Doings)), api.OK
}

// writeDoing returns the row of a doing.
func writeDoing(doing api.Doing) string {
	kind, _ := kindOf(doing)
	numbers := []int{doing.A, doing.B, doing.Count}
	return rows.Write(kind.word, numbers[:kind.numbers]...)
}

// Read returns the site of a journal, or the number of the first row that has another form.
func Read(text string) (s api.Site, row int, e api.Errno) {
	if len(text) > api.MaxJournal {
		return api.Site{}, 0, api.ErrLong
	}
	var site api.Site
	bad := rows.Read(text, api.Range{Min: 0, Max: maxNumber}, func(next rows.Row) bool { return readRow(&site, next) })
	if bad != 0 {
		return api.Site{}, bad, api.ErrForm
	}
	if e := Check(site); e != api.OK {
		return api.Site{}, 0, e
	}
	return site, 0, api.OK
}

// readRow adds to a site what a row says, and tells whether the row is one that may come there.
func readRow(s *api.Site, row rows.Row) bool {
	numbers := row.Numbers
	switch {
	case (row.Word == siteWord) != (row.At == 1):
		return false
	case row.Is(siteWord, 5):
		s.Lorries, s.Piles, s.Most = numbers[0], numbers[1], numbers[4]
		s.Source = api.Range{Min: numbers[2], Max: numbers[3]}
		return true
	case row.Is(gateWord, 3):
		back := api.Range{Min: numbers[0], Max: numbers[1]}
		s.Gates = append(s.Gates, api.Gate{Back: back, Wander: numbers[2]})
		return len(s.Doings) == 0
	case row.Is(rows.End, 1):
		return numbers[0] == len(s.Doings)
	}
	doing, ok := readDoing(row)
	s.Doings = append(s.Doings, doing)
	return ok
}

// readDoing returns the doing that a row is, if it is one.
func readDoing(row rows.Row) (api.Doing, bool) {
	for _, kind := range doingKinds {
		if row.Is(kind.word, kind.numbers) {
			var numbers [3]int
			copy(numbers[:], row.Numbers)
			return api.Doing{Kind: kind.kind, A: numbers[0], B: numbers[1], Count: numbers[2]}, true
		}
	}
	return api.Doing{}, false
}
