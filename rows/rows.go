// Package rows writes and reads texts of rows: each row is a word and numbers, and the last one begins with the word "end".
package rows

import (
	"strconv"
	"strings"

	"swarf/api"
)

// End is the word of the last row of a text.
const End = "end"

// Separator is what stands between a word and a number of a row, and between two numbers.
type Separator string

// blank is the separator of most texts.
const blank Separator = " "

// Row is a row that was read: its number, from 1 on, its word, and its numbers.
type Row struct {
	At      int
	Word    string
	Numbers []int
}

// Is tells whether a row has that word and so many numbers.
func (r Row) Is(word string, numbers int) bool {
	return r.Word == word && len(r.Numbers) == numbers
}

// Write returns the row of a word and numbers, with blanks between them.
func Write(word string, numbers ...int) string { return blank.Write(word, numbers...) }

// Read reads a text with blanks between the words of its rows, as the method Read does.
func Read(text string, bounds api.Range, take func(Row) bool) int {
	return blank.Read(text, bounds, take)
}

// Write returns the row of a word and numbers.
func (s Separator) Write(word string, numbers ...int) string {
	words := []string{word}
	for _, n := range numbers {
		words = append(words, strconv.Itoa(n))
	}
	return strings.Join(words, string(s)) + "\n"
}

// Read hands all rows of a text, one by one, to take, which tells whether such a row may come there. It returns the number of the first row that may not, that is not written as Write does, or that has a number out of the bounds; of the row after the last one, if that is not an end; or 0.
func (s Separator) Read(text string, bounds api.Range, take func(Row) bool) int {
	for at := 1; ; at++ {
		line, rest, isEnded := strings.Cut(text, "\n")
		words := strings.Split(line, string(s))
		numbers, ok := Numbers(words[1:], bounds)
		if !isEnded || !ok || !take(Row{At: at, Word: words[0], Numbers: numbers}) {
			return at
		}
		if words[0] == End {
			return afterEnd(at, rest)
		}
		text = rest
	}
}

// afterEnd returns the number of the row after an end, if there is one, or 0.
func afterEnd(at int, rest string) int {
	if rest != "" {
		return at + 1
	}
	return 0
}

// Numbers returns the numbers that words are, if all are written as Write does, and within the bounds.
func Numbers(words []string, bounds api.Range) ([]int, bool) {
	var list []int
	for _, word := range words {
		n, err := strconv.Atoi(word)
		if err != nil || n < bounds.Min || n > bounds.Max || strconv.Itoa(n) != word {
			return nil, false
		}
		list = append(list, n)
	}
	return list, true
}
