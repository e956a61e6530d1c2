package clerk

import (
	"strconv"
	"strings"

	"swarf/api"
)

// blank stands between two words of a line, and between two parts of a row.
const blank = " "

// Words of replies.
const (
	done      = "ok"
	nobody    = "none"
	eventWord = "event"
)

// verdict is a verdict that is told.
type verdict int

var verdictWords = [...]string{api.Always: "always", api.Nowhere: "nowhere", api.Unsure: "unsure"}

// row returns a row of these parts.
func row(parts ...any) string { return joined(parts) + "\n" }

// joined returns the words of some parts.
func joined[T any](parts []T) string {
	var words []string
	for _, part := range parts {
		words = append(words, told(part))
	}
	return strings.Join(words, blank)
}

// told returns the words of a part of a row: of a list, those of all that is in it.
func told(part any) string {
	switch p := part.(type) {
	case string:
		return p
	case int:
		return strconv.Itoa(p)
	case verdict:
		return verdictWords[p]
	case api.Range:
		return joined([]int{p.Min, p.Max})
	case []int:
		if len(p) == 0 {
			return nobody
		}
		return joined(p)
	case api.Errno:
		return joined([]any{"error", int(p)})
	case []any:
		return joined(p)
	}
	return ""
}

// orError returns what is told, or the error if there is one.
func orError[T any](told T, e api.Errno) any {
	if e != api.OK {
		return e
	}
	return told
}
