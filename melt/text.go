package melt

import (
	"strings"

	"swarf/api"
	"swarf/rows"
	"swarf/span"
)

// maxDigit is the greatest number of a line: it has one digit.
const maxDigit = 9

// words are the words of the reasons.
var words = [...]string{api.ByCut: "cut", api.ByLight: "light", api.ByHeavy: "heavy", api.ByBroken: "broken", api.ByDear: "dear"}

// reasonOf returns the reason of a word, 0 if it has none.
func reasonOf(word string) int {
	for reason, known := range words {
		if known == word {
			return reason
		}
	}
	return 0
}

// numbersOf returns how many numbers come after the word of a reason, first At, then Cut; -1 if there is no such reason.
func numbersOf(reason int) int {
	count := 0
	switch reason {
	case api.ByCut:
		count++
		fallthrough
	case api.ByBroken:
		count++
		fallthrough
	case api.ByLight, api.ByHeavy, api.ByDear:
		return count
	}
	return -1
}

// checkWritten returns the first error of a proof that is to be written.
func checkWritten(proof []api.Bound) api.Errno {
	if len(proof) > api.MaxBounds {
		return api.ErrMany
	}
	for _, bound := range proof {
		if numbersOf(bound.Reason) < 0 {
			return api.ErrKind
		}
		mostAt, mostCut := mostOf(bound.Reason)
		if !span.IsWithin(bound.At, 0, mostAt) || !span.IsWithin(bound.Cut, 0, mostCut) {
			return api.ErrValue
		}
	}
	return api.OK
}

// mostOf returns the greatest At and Cut with which a reason is written, 0 where they are not.
func mostOf(reason int) (at, cut int) {
	switch reason {
	case api.ByCut:
		return api.MaxBins - 1, api.MaxGrabs
	case api.ByBroken:
		return api.MaxMetals - 1, 0
	}
	return 0, 0
}

// writeBound returns the line of a bound.
func writeBound(bound api.Bound) string {
	numbers := []int{bound.At, bound.Cut}
	return rows.Write(words[bound.Reason], numbers[:numbersOf(bound.Reason)]...)
}

// readBound returns the bound of a line, and whether it is the line of one.
func readBound(line string) (api.Bound, bool) {
	parts := strings.Split(line, " ")
	reason := reasonOf(parts[0])
	numbers, ok := rows.Numbers(parts[1:], api.Range{Min: 0, Max: maxDigit})
	if !ok || len(numbers) != numbersOf(reason) {
		return api.Bound{}, false
	}
	numbers = append(numbers, 0, 0)
	return api.Bound{Reason: reason, At: numbers[0], Cut: numbers[1]}, true
}

// readProof returns the bounds of a text, or the number of the first line that has another form.
func readProof(text string) (proof []api.Bound, bad int) {
	for text != "" {
		line, rest, isEnded := strings.Cut(text, "\n")
		bound, ok := readBound(line)
		if !ok || !isEnded {
			return nil, len(proof) + 1
		}
		proof = append(proof, bound)
		text = rest
	}
	return proof, 0
}
