package bridge

import (
	"swarf/api"
	"swarf/rows"
)

// The kinds of rows that are not events; those of events have the kind of the event.
const (
	headRow = 0
	endRow  = -1
)

// rowKind is the first word of a row, its kind, and how many numbers it has.
type rowKind struct {
	word          string
	kind, numbers int
}

var rowKinds = [...]rowKind{
	{"bridge", headRow, 3},
	{"empty", api.EventEmpty, 3},
	{"test", api.EventTest, 4},
	{"load", api.EventLoad, 3},
	{rows.End, endRow, 1},
}

// maxNumber is the greatest number of a tape: it has five digits.
const maxNumber = 99999

// writeRow returns the row of that kind with these numbers.
func writeRow(kind int, numbers ...int) string {
	text := ""
	for _, row := range rowKinds {
		if row.kind == kind {
			text = rows.Write(row.word, numbers...)
		}
	}
	return text
}

// writeEvent returns the row of an event.
func writeEvent(event api.Event) string {
	change := event.Change
	if event.Kind == api.EventTest {
		return writeRow(event.Kind, event.Load, event.Shown, change.Min, change.Max)
	}
	return writeRow(event.Kind, event.Shown, change.Min, change.Max)
}

// Write returns the tape of a log.
func Write(l api.Log) (string, api.Errno) {
	if e := Check(l); e != api.OK {
		return "", e
	}
	tape := writeRow(headRow, l.Step, l.Zero.Min, l.Zero.Max)
	for _, event := range l.Events {
		tape += writeEvent(event)
	}
	return tape + writeRow(endRow, len(l.Events)), api.OK
}

// Read returns the log of a tape, or the number of the first row that has another form.
func Read(text string) (l api.Log, row int, e api.Errno) {
	if len(text) > api.MaxTape {
		return api.Log{}, 0, api.ErrLong
	}
	var log api.Log
	bad := rows.Read(text, api.Range{Min: -maxNumber, Max: maxNumber}, func(next rows.Row) bool { return readRow(&log, next) })
	if bad != 0 {
		return api.Log{}, bad, api.ErrForm
	}
	if e := Check(log); e != api.OK {
		return api.Log{}, 0, e
	}
	return log, 0, api.OK
}

// readRow adds to a log what a row says, and tells whether the row is one that may come there.
func readRow(l *api.Log, row rows.Row) bool {
	kind, ok := kindOf(row)
	if !ok || (kind == headRow) != (row.At == 1) {
		return false
	}
	switch kind {
	case headRow:
		l.Step, l.Zero = row.Numbers[0], api.Range{Min: row.Numbers[1], Max: row.Numbers[2]}
	case endRow:
		return row.Numbers[0] == len(l.Events)
	default:
		l.Events = append(l.Events, eventOf(kind, row.Numbers))
	}
	return true
}

// kindOf returns the kind of a row, if its word and its numbers are those of one.
func kindOf(row rows.Row) (kind int, ok bool) {
	for _, known := range rowKinds {
		if row.Is(known.word, known.numbers) {
			return known.kind, true
		}
	}
	return 0, false
}

// eventOf returns the event that a row of that kind with these numbers is.
func eventOf(kind int, numbers []int) api.Event {
	event := api.Event{Kind: kind}
	if kind == api.EventTest {
		event.Load, numbers = numbers[0], numbers[1:]
	}
	event.Shown = numbers[0]
	event.Change = api.Range{Min: numbers[1], Max: numbers[2]}
	return event
}
