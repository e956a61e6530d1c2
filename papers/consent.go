package papers

import (
	"strconv"

	"swarf/api"
	"swarf/span"
)

// consent is a paper that counts in a land: its number, and the kilograms that it has.
type consent struct{ number, kilos int }

// registry knows papers.
type registry interface {
	// counting returns the papers that count at a stop, ascending.
	counting(s stop) []consent
}

// cabinet is the registry of the papers of a zone, for waste of a code.
type cabinet struct {
	papers []api.Paper
	code   int
}

func (c cabinet) counting(s stop) []consent {
	var list []consent
	for number, paper := range c.papers {
		if paper.Land == s.land && paper.Code == c.code && span.IsWithin(s.day, paper.First, paper.Last) {
			list = append(list, consent{number: number, kilos: paper.Kilos})
		}
	}
	return list
}

// delayed is a registry of papers for those who come to each stop so many days later.
type delayed struct {
	papers registry
	days   int
}

func (d delayed) counting(s stop) []consent {
	return d.papers.counting(stop{land: s.land, day: s.day + d.days})
}

// uncovered is the error of a land that is not covered, as all papers that count in it have so many kilograms alone.
type uncovered struct{ land, kilos int }

func (u uncovered) Error() string {
	return "the papers of the land " + strconv.Itoa(u.land) + " are for " + strconv.Itoa(u.kilos) + " kilograms"
}

// fewest returns the fewest papers that have so many kilograms together, of several lists the first one in lexicographic order; all papers together have as many.
func fewest(consents []consent, kilos int) []int {
	var best []int
	var choose func(chosen []int, rest []consent, needed int)
	choose = func(chosen []int, rest []consent, needed int) {
		switch {
		case best != nil && len(chosen) >= len(best):
			// What comes later, or has more papers, is not better.
		case needed <= 0:
			best = append(best[:0], chosen...)
		case len(rest) > 0:
			first := rest[0]
			choose(append(chosen, first.number), rest[1:], needed-first.kilos)
			choose(chosen, rest[1:], needed)
		}
	}
	choose(nil, consents, kilos)
	return best
}
