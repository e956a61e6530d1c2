package mix

import (
	"strconv"
	"strings"

	"swarf/api"
)

// The first words of the lines of a ticket; the last line is a stop alone.
const (
	stuffsWord  = "stuffs"
	splitWord   = "split"
	weighedWord = "weighed"
	stop        = "."
)

// maxDigits is how many digits a number of a ticket has at most.
const maxDigits = 8

// Ticket returns the ticket of a load.
func Ticket(l api.Load) (string, api.Errno) {
	if e := Check(l); e != api.OK {
		return "", e
	}
	words := []string{stuffsWord}
	for _, stuff := range l.Stuffs {
		words = append(words, writeRange(stuff))
	}
	text := writeLine(words...)
	for _, split := range l.Splits {
		text += writeSplit(split)
	}
	for _, weighed := range l.Weighed {
		text += writeLine(weighedWord, strconv.Itoa(weighed.Fraction), writeRange(weighed.Kilos))
	}
	return text + writeLine(stop), api.OK
}

// writeLine returns the line of these words.
func writeLine(words ...string) string { return strings.Join(words, " ") + "\n" }

// writeRange returns a range as a ticket has it.
func writeRange(r api.Range) string { return strconv.Itoa(r.Min) + ".." + strconv.Itoa(r.Max) }

// writeSplit returns the line of a split.
func writeSplit(split api.Split) string {
	words := []string{splitWord, strconv.Itoa(split.Of)}
	for stuff, wrong := range split.Wrong {
		sign := "-"
		if split.Pulls[stuff] {
			sign = "+"
		}
		words = append(words, sign+strconv.Itoa(wrong))
	}
	return writeLine(words...)
}

// Parse returns the load of a ticket, or the number of the first line that has another form.
func Parse(text string) (l api.Load, line int, e api.Errno) {
	if len(text) > api.MaxTicket {
		return api.Load{}, 0, api.ErrLong
	}
	load, bad := readLines(text)
	if bad != 0 {
		return api.Load{}, bad, api.ErrForm
	}
	if e := Check(load); e != api.OK {
		return api.Load{}, 0, e
	}
	return load, 0, api.OK
}

// readLines returns the load of a ticket, and the number of the first line that has another form, or 0.
func readLines(text string) (l api.Load, bad int) {
	for line := 1; ; line++ {
		now, rest, ended := strings.Cut(text, "\n")
		if !ended {
			return l, line
		}
		if now == stop && line > 1 {
			if rest != "" {
				return l, line + 1
			}
			return l, 0
		}
		words := strings.Split(now, " ")
		if (words[0] == stuffsWord) != (line == 1) || !readLine(&l, words) {
			return l, line
		}
		text = rest
	}
}

// readLine adds to a load what a line says, and tells whether the line has the form of one that may come now.
func readLine(l *api.Load, words []string) bool {
	ok := false
	switch words[0] {
	case stuffsWord:
		l.Stuffs, ok = readStuffs(words[1:])
	case splitWord:
		var split api.Split
		split, ok = readSplit(words[1:])
		l.Splits = append(l.Splits, split)
		ok = ok && len(l.Weighed) == 0
	case weighedWord:
		var weighed api.Weighed
		weighed, ok = readWeighed(words[1:])
		l.Weighed = append(l.Weighed, weighed)
	}
	return ok
}

// readStuffs returns the ranges that words are, if there is one or more.
func readStuffs(words []string) ([]api.Range, bool) {
	var list []api.Range
	for _, word := range words {
		stuff, ok := readRange(word)
		if !ok {
			return nil, false
		}
		list = append(list, stuff)
	}
	return list, len(list) > 0
}

// readSplit returns the split that words are, if they are a number and one sign with a number or more.
func readSplit(words []string) (api.Split, bool) {
	if len(words) < 2 {
		return api.Split{}, false
	}
	of, ok := readNumber(words[0])
	split := api.Split{Of: of}
	for _, word := range words[1:] {
		isPulled, wrong, isSigned := readSigned(word)
		split.Pulls, split.Wrong = append(split.Pulls, isPulled), append(split.Wrong, wrong)
		ok = ok && isSigned
	}
	return split, ok
}

// readSigned returns whether the sign of a word says that a material is pulled, and the number behind the sign, if the word is both.
func readSigned(word string) (isPulled bool, wrong int, ok bool) {
	number, isPulled := strings.CutPrefix(word, "+")
	if !isPulled {
		if number, ok = strings.CutPrefix(word, "-"); !ok {
			return false, 0, false
		}
	}
	wrong, ok = readNumber(number)
	return isPulled, wrong, ok
}

// readWeighed returns the weighing that words are, if they are a number and a range.
func readWeighed(words []string) (weighed api.Weighed, ok bool) {
	if len(words) != 2 {
		return api.Weighed{}, false
	}
	fraction, isNumber := readNumber(words[0])
	kilos, isRange := readRange(words[1])
	return api.Weighed{Fraction: fraction, Kilos: kilos}, isNumber && isRange
}

// readRange returns the range that a word is, if it is written as a ticket has it.
func readRange(word string) (api.Range, bool) {
	low, high, isCut := strings.Cut(word, "..")
	least, isLeast := readNumber(low)
	most, isMost := readNumber(high)
	return api.Range{Min: least, Max: most}, isCut && isLeast && isMost
}

// readNumber returns the number that a word is, if it is written as a ticket has it.
func readNumber(word string) (int, bool) {
	n, err := strconv.Atoi(word)
	return n, err == nil && len(word) <= maxDigits && n >= 0 && strconv.Itoa(n) == word
}
