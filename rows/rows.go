// Package rows writes and reads texts of rows: each row is a word and numbers, and the last one begins with the word "end".
package rows

import (
	"strconv"
	"strings"

	"swarf/api"
)

// End is the word of the last row of a text.
const End = "end"

// Style is what stands in a row after its word, and what between two of its numbers.
type Style struct{ AfterWord, Between string }

// Separator is what stands both after the word of a row and between two of its numbers.
type Separator string

// blank is the separator of most texts.
const blank Separator = " "

// Row is a row that was read: its number, from 1 on, its word, and its numbers.
type Row struct {
	At      int
	Word    string
	Numbers []int
}

// Is tells whether a row has that word and so many numbers.
func (r Row) Is(word string, numbers int) bool {
	return r.Word == word && len(r.Numbers) == numbers
}

// Write returns the row of a word and numbers, with blanks between them.
func Write(word string, numbers ...int) string { return blank.Write(word, numbers...) }

// Read reads a text with blanks between the words of its rows, as the method Read of Style does.
func Read(text string, bounds api.Range, take func(Row) bool) int {
	return blank.Read(text, bounds, take)
}

// Write returns the row of a word and numbers.
func (s Separator) Write(word string, numbers ...int) string {
	return s.style().Write(word, numbers...)
}

// Read reads a text as the method Read of Style does.
func (s Separator) Read(text string, bounds api.Range, take func(Row) bool) int {
	return s.style().Read(text, bounds, take)
}

// style returns the style of rows with one separator.
func (s Separator) style() Style { return Style{AfterWord: string(s), Between: string(s)} }

// Write returns the row of a word and numbers.
func (s Style) Write(word string, numbers ...int) string {
	row, mark := word, s.AfterWord
	for _, n := range numbers {
		row += mark + strconv.Itoa(n)
		mark = s.Between
	}
	return row + "\n"
}

// Read hands all rows of a text, one by one, to take, which tells whether such a row may come there. It returns the number of the first row that may not, that is not written as Write does, or that has a number out of the bounds; of the row after the last one, if that is not an end; or 0.
func (s Style) Read(text string, bounds api.Range, take func(Row) bool) int {
	for at := 1; ; at++ {
		line, rest, isEnded := strings.Cut(text, "\n")
		word, words := s.split(line)
		numbers, ok := Numbers(words, bounds)
		if !isEnded || !ok || !take(Row{At: at, Word: word, Numbers: numbers}) {
			return at
		}
		if word == End {
			return afterEnd(at, rest)
		}
		text = rest
	}
}

// split returns the word of a row, and the words after it.
func (s Style) split(row string) (word string, words []string) {
	word, list, isMore := strings.Cut(row, s.AfterWord)
	if isMore {
		words = strings.Split(list, s.Between)
	}
	return word, words
}

// afterEnd returns the number of the row after an end, if there is one, or 0.
func afterEnd(at int, rest string) int {
	if rest != "" {
		return at + 1
	}
	return 0
}

// Numbers returns the numbers that words are, if all are written as Write does, and within the bounds.
func Numbers(words []string, bounds api.Range) ([]int, bool) {
	var list []int
	for _, word := range words {
		n, err := strconv.Atoi(word)
		if err != nil || n < bounds.Min || n > bounds.Max || strconv.Itoa(n) != word {
			return nil, false
		}
		list = append(list, n)
	}
	return list, true
}
