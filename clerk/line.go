package clerk

import (
	"iter"
	"strings"

	"swarf/api"
)

// kind is a kind of lines: how many numbers follow the word, and what is asked or done: the reply, and, if something is done, the desk after it. With an error they do not matter. A question has no do, any other line no ask.
type kind struct {
	numbers int
	ask     func(d desk, numbers []int) (any, api.Errno)
	do      func(d desk, numbers []int) (desk, any, api.Errno)
}

// kindsOfLines returns the kinds of lines by their first words.
func kindsOfLines() map[string]kind {
	return map[string]kind{
		"at":       {numbers: 1, do: desk.at},
		"empty":    {numbers: 3, do: desk.empty},
		"test":     {numbers: 4, do: desk.test},
		"load":     {numbers: 3, do: desk.load},
		"pass":     {numbers: 3, do: desk.pass},
		"find":     {numbers: 1, do: desk.find},
		"clean":    {numbers: 1, do: desk.clean},
		"net":      {numbers: 2, ask: desk.net},
		"tip":      {numbers: 5, do: desk.tip},
		"take":     {numbers: 3, do: desk.take},
		"cash":     {numbers: 2, do: desk.cash},
		"bank":     {numbers: 2, do: desk.bank},
		"mass":     {numbers: 1, ask: desk.mass},
		"suspects": {numbers: 1, ask: desk.suspects},
		"breaks":   {numbers: 0, ask: desk.breaks},
		"room":     {numbers: 1, ask: desk.room},
	}
}

// lines hands out the lines of a book, without their line feeds.
func lines(book string) iter.Seq[string] {
	return func(yield func(string) bool) {
		for rest := book; rest != ""; {
			line, next, _ := strings.Cut(rest, "\n")
			if !yield(line) {
				return
			}
			rest = next
		}
	}
}

// read returns the kind and the numbers of a line, if it is written as it has to be.
func read(kinds map[string]kind, line string) (k kind, numbers []int, ok bool) {
	words := strings.Split(line, blank)
	k, ok = kinds[words[0]]
	if !ok || len(words)-1 != k.numbers {
		return kind{}, nil, false
	}
	for _, word := range words[1:] {
		n, ok := number(word)
		if !ok {
			return kind{}, nil, false
		}
		numbers = append(numbers, n)
	}
	return k, numbers, true
}

// maxDigits is how many digits a number has at most.
const maxDigits = 6

// number returns the number that a word is, if it is written as it has to be.
func number(word string) (n int, ok bool) {
	digits, isBelow := strings.CutPrefix(word, "-")
	isNeedless := strings.HasPrefix(digits, "0") && word != "0"
	if digits == "" || len(digits) > maxDigits || isNeedless {
		return 0, false
	}
	for _, digit := range digits {
		if digit < '0' || digit > '9' {
			return 0, false
		}
		n = 10*n + int(digit-'0')
	}
	if isBelow {
		n = -n
	}
	return n, true
}
