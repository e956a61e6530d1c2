package bridge

import (
	"strconv"
	"strings"

	"swarf/api"
)

// The kinds of rows that are not events; those of events have the kind of the event.
const (
	headRow = 0
	endRow  = -1
)

// rowKind is the first word of a row, its kind, and how many numbers it has.
type rowKind struct {
	word          string
	kind, numbers int
}

var rowKinds = [...]rowKind{
	{"bridge", headRow, 3},
	{"empty", api.EventEmpty, 3},
	{"test", api.EventTest, 4},
	{"load", api.EventLoad, 3},
	{"end", endRow, 1},
}

// maxNumber is the greatest number of a tape: it has five digits.
const maxNumber = 99999

// writeRow returns the row of that kind with these numbers.
func writeRow(kind int, numbers ...int) string {
	var words []string
	for _, row := range rowKinds {
		if row.kind == kind {
			words = append(words, row.word)
		}
	}
	for _, n := range numbers {
		words = append(words, strconv.Itoa(n))
	}
	return strings.Join(words, " ") + "\n"
}

// writeEvent returns the row of an event.
func writeEvent(event api.Event) string {
	change := event.Change
	if event.Kind == api.EventTest {
		return writeRow(event.Kind, event.Load, event.Shown, change.Min, change.Max)
	}
	return writeRow(event.Kind, event.Shown, change.Min, change.Max)
}

// Write returns the tape of a log.
func Write(l api.Log) (string, api.Errno) {
	if e := Check(l); e != api.OK {
		return "", e
	}
	var tape strings.Builder
	tape.WriteString(writeRow(headRow, l.Step, l.Zero.Min, l.Zero.Max))
	for _, event := range l.Events {
		tape.WriteString(writeEvent(event))
	}
	tape.WriteString(writeRow(endRow, len(l.Events)))
	return tape.String(), api.OK
}

// Read returns the log of a tape, or the number of the first row that has another form.
func Read(text string) (l api.Log, row int, e api.Errno) {
	if len(text) > api.MaxTape {
		return api.Log{}, 0, api.ErrLong
	}
	log, bad := readRows(text)
	if bad != 0 {
		return api.Log{}, bad, api.ErrForm
	}
	if e := Check(log); e != api.OK {
		return api.Log{}, 0, e
	}
	return log, 0, api.OK
}

// readRows returns the log of a tape, and the number of the first row that has another form, or 0.
func readRows(text string) (l api.Log, bad int) {
	for row := 1; ; row++ {
		line, rest, ended := strings.Cut(text, "\n")
		kind, numbers, ok := readRow(line)
		if !ended || !ok || (kind == headRow) != (row == 1) {
			return l, row
		}
		switch kind {
		case headRow:
			l.Step, l.Zero = numbers[0], api.Range{Min: numbers[1], Max: numbers[2]}
		case endRow:
			return l, badEnd(row, numbers[0] == len(l.Events), rest)
		default:
			l.Events = append(l.Events, eventOf(kind, numbers))
		}
		text = rest
	}
}

// badEnd returns the number of the first row from the row "end" on that has another form, or 0.
func badEnd(row int, counted bool, rest string) int {
	if !counted {
		return row
	}
	if rest != "" {
		return row + 1
	}
	return 0
}

// readRow returns the kind and the numbers of a row, if it is one.
func readRow(line string) (kind int, numbers []int, ok bool) {
	words := strings.Split(line, " ")
	for _, row := range rowKinds {
		if row.word == words[0] && row.numbers == len(words)-1 {
			numbers, ok = readNumbers(words[1:])
			return row.kind, numbers, ok
		}
	}
	return 0, nil, false
}

// readNumbers returns the numbers that words are, if each one is written as a tape has it.
func readNumbers(words []string) ([]int, bool) {
	var list []int
	for _, word := range words {
		n, err := strconv.Atoi(word)
		if err != nil || n < -maxNumber || n > maxNumber || strconv.Itoa(n) != word {
			return nil, false
		}
		list = append(list, n)
	}
	return list, true
}

// eventOf returns the event that a row of that kind with these numbers is.
func eventOf(kind int, numbers []int) api.Event {
	event := api.Event{Kind: kind}
	if kind == api.EventTest {
		event.Load, numbers = numbers[0], numbers[1:]
	}
	event.Shown = numbers[0]
	event.Change = api.Range{Min: numbers[1], Max: numbers[2]}
	return event
}
