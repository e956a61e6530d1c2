package strip

import (
	"strconv"
	"strings"

	"swarf/api"
	"swarf/rows"
)

// The words of the lines of a card that are not those of parts.
const (
	swapWord  = "swap"
	outWord   = "out"
	inWord    = "in"
	wrongWord = "wrong"
	needsWord = "needs"
	doneWord  = "done"
)

// The signs of the line of a part.
const (
	badSign    = '!'
	goodSign   = '.'
	noneBefore = "-"
	andBefore  = "+"
)

// maxNumber is the greatest number of a card: it has five digits.
const maxNumber = 99999

// Card returns the card of a car.
func Card(c api.Car) (string, api.Errno) {
	if e := Check(c); e != api.OK {
		return "", e
	}
	text := ""
	for _, part := range c.Parts {
		text += writePart(part)
	}
	text += rows.Write(swapWord, c.Swap)
	for _, look := range c.Looks {
		text += writeLook(look)
	}
	return text + rows.Write(wrongWord, c.Wrong) + rows.Write(needsWord, c.Needs...) + rows.Write(doneWord), api.OK
}

// writePart returns the line of a part.
func writePart(part api.Part) string {
	sign := goodSign
	if part.Bad {
		sign = badSign
	}
	tool := rune('A' + part.Tool - 1)
	return string(sign) + string(tool) + strconv.Itoa(part.Minutes) + " " + writeBefore(part.Before) + "\n"
}

// writeBefore returns the parts that have to be out before one.
func writeBefore(before []int) string {
	if len(before) == 0 {
		return noneBefore
	}
	var words []string
	for _, part := range before {
		words = append(words, strconv.Itoa(part))
	}
	return strings.Join(words, andBefore)
}

// writeLook returns the line of a look.
func writeLook(look api.Look) string {
	if look.Out {
		return rows.Write(outWord, look.Part)
	}
	return rows.Write(inWord, look.Part)
}

// Parse returns the car of a card, or the number of the first line that has another form.
func Parse(text string) (c api.Car, line int, e api.Errno) {
	if len(text) > api.MaxCard {
		return api.Car{}, 0, api.ErrLong
	}
	car, bad := readCard(text)
	if bad != 0 {
		return api.Car{}, bad, api.ErrForm
	}
	if e := Check(car); e != api.OK {
		return api.Car{}, 0, e
	}
	return car, 0, api.OK
}

// readCard returns the car of a card, and the number of the first line that has another form, or 0.
func readCard(text string) (api.Car, int) {
	var card reading
	var words []string
	line, start := 1, 0
letters:
	for at, letter := range text {
		switch letter {
		case ' ':
			words = append(words, text[start:at])
		case '\n':
			words = append(words, text[start:at])
			if !card.take(words) {
				break letters
			}
			words, line = nil, line+1
		default:
			continue letters
		}
		start = at + 1
	}
	isEnded := len(words) == 0 && start == len(text)
	if isEnded && card.next == nothingNext {
		return card.car, 0
	}
	return card.car, line
}

// What may come next on a card.
const (
	partNext = iota // or the swap
	lookNext        // or how many may be wrong
	needsNext
	doneNext
	nothingNext
)

// reading is a car of which some lines were read, and what may come next.
type reading struct {
	car  api.Car
	next int
}

// take adds to a car what a line says, and tells whether the line has the form of one that may come next.
func (r *reading) take(words []string) bool {
	if part, ok := readPart(words); ok {
		r.car.Parts = append(r.car.Parts, part)
		return r.next == partNext
	}
	numbers, ok := readNumbers(words[1:])
	row := rows.Row{Word: words[0], Numbers: numbers}
	switch {
	case !ok:
		return false
	case r.next == partNext && row.Is(swapWord, 1):
		r.car.Swap, r.next = numbers[0], lookNext
	case r.next == lookNext && (row.Is(outWord, 1) || row.Is(inWord, 1)):
		r.car.Looks = append(r.car.Looks, api.Look{Part: numbers[0], Out: row.Word == outWord})
	case r.next == lookNext && row.Is(wrongWord, 1):
		r.car.Wrong, r.next = numbers[0], needsNext
	case r.next == needsNext && row.Word == needsWord:
		r.car.Needs, r.next = numbers, doneNext
	case r.next == doneNext && row.Is(doneWord, 0):
		r.next = nothingNext
	default:
		return false
	}
	return true
}

// readPart returns the part that words are, if they are one with its tool and its minutes, and one with what has to be out before.
func readPart(words []string) (api.Part, bool) {
	if len(words) != 2 || len(words[0]) < 2 {
		return api.Part{}, false
	}
	sign, tool, number := words[0][0], words[0][1], words[0][2:]
	isHead := (sign == badSign || sign == goodSign) && tool >= 'A' && tool <= 'Z'
	minutes, isNumber := readNumbers([]string{number})
	before, isBefore := readBefore(words[1])
	if !isHead || !isNumber || !isBefore {
		return api.Part{}, false
	}
	return api.Part{Before: before, Bad: sign == badSign, Tool: int(tool-'A') + 1, Minutes: minutes[0]}, true
}

// readBefore returns the parts that a word says have to be out before one.
func readBefore(word string) ([]int, bool) {
	if word == noneBefore {
		return nil, true
	}
	return readNumbers(strings.Split(word, andBefore))
}

// readNumbers returns the numbers that words are, if they are written as a card has them.
func readNumbers(words []string) ([]int, bool) {
	return rows.Numbers(words, api.Range{Min: 0, Max: maxNumber})
}
