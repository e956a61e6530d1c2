package pay

import (
	"swarf/api"
	"swarf/rows"
)

// semicolon separates the words of an account.
const semicolon rows.Separator = ";"

// maxNumber is the greatest number of an account: it has nine digits.
const maxNumber = 999999999

// The kinds of lines of an account.
const (
	tillLine = iota
	sureLine
	maybeLine
	cashLine
	bankLine
	lastLine
)

// lineNames are the first words of lines.
var lineNames = [...]string{tillLine: "till", sureLine: "same", maybeLine: "maybe", cashLine: "cash", bankLine: "bank", lastLine: rows.End}

// Account returns the account of a till.
func Account(t api.Till) (string, api.Errno) {
	if e := Check(t); e != api.OK {
		return "", e
	}
	text := writeLine(tillLine, t.Names, t.Limit, t.Window)
	for _, link := range t.Links {
		text += writeLink(link)
	}
	for _, due := range t.Dues {
		text += writeDue(due)
	}
	return text + writeLine(lastLine), api.OK
}

// writeLine returns the line of that kind with these numbers.
func writeLine(kind int, numbers ...int) string { return semicolon.Write(lineNames[kind], numbers...) }

// writeLink returns the line of a link.
func writeLink(link api.Link) string {
	if link.Sure {
		return writeLine(sureLine, link.A, link.B)
	}
	return writeLine(maybeLine, link.A, link.B)
}

// writeDue returns the line of a due.
func writeDue(due api.Due) string {
	if due.Cash {
		return writeLine(cashLine, due.Day, due.Name, due.Cents)
	}
	return writeLine(bankLine, due.Day, due.Name, due.Cents)
}

// Parse returns the till of an account, or the number of the first line that has another form.
func Parse(text string) (t api.Till, line int, e api.Errno) {
	if len(text) > api.MaxTill {
		return api.Till{}, 0, api.ErrLong
	}
	defer func() {
		if line != 0 {
			e = api.ErrForm
		}
		// Nothing is told of a till in which something is wrong, though some of it was read.
		if e != api.OK {
			t = api.Till{}
		}
	}()
	line = semicolon.Read(text, api.Range{Min: 0, Max: maxNumber}, func(row rows.Row) bool { return readLine(&t, row) })
	if line == 0 {
		e = Check(t)
	}
	return t, line, e
}

// readLine adds to a till what a line says, and tells whether the line is one that may come there.
func readLine(t *api.Till, row rows.Row) bool {
	numbers := row.Numbers
	switch {
	case (row.Word == lineNames[tillLine]) != (row.At == 1):
		return false
	case row.Is(lineNames[tillLine], 3):
		t.Names, t.Limit, t.Window = numbers[0], numbers[1], numbers[2]
	case row.Is(lineNames[sureLine], 2), row.Is(lineNames[maybeLine], 2):
		t.Links = append(t.Links, api.Link{A: numbers[0], B: numbers[1], Sure: row.Word == lineNames[sureLine]})
		return len(t.Dues) == 0
	case row.Is(lineNames[cashLine], 3), row.Is(lineNames[bankLine], 3):
		t.Dues = append(t.Dues, api.Due{Day: numbers[0], Name: numbers[1], Cents: numbers[2], Cash: row.Word == lineNames[cashLine]})
	default:
		return row.Is(lineNames[lastLine], 0)
	}
	return true
}
