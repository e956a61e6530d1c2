package pile

import (
	"swarf/api"
	"swarf/rows"
)

// The words of the rows of a sheet that are not the end.
const (
	spotWord = "spot"
	sortWord = "sort"
	tipWord  = "tip"
	takeWord = "take"
)

// maxNumber is the greatest number of a sheet: it has seven digits.
const maxNumber = 9999999

// Write returns the sheet of a ground.
func Write(g api.Ground) (string, api.Errno) {
	if e := Check(g); e != api.OK {
		return "", e
	}
	text := ""
	for _, spot := range g.Spots {
		text += rows.Write(spotWord, spot.X, spot.Y, spot.Area)
	}
	for _, sort := range g.Sorts {
		text += rows.Write(sortWord, sort.High, sort.Dense, sort.Fire, sort.Age)
	}
	for _, act := range g.Acts {
		text += writeAct(act)
	}
	return text + rows.Write(rows.End, len(g.Acts)), api.OK
}

// writeAct returns the row of an act.
func writeAct(act api.Act) string {
	if act.Take {
		return rows.Write(takeWord, act.Hour, act.Spot, act.Mass.Min, act.Mass.Max)
	}
	return rows.Write(tipWord, act.Hour, act.Spot, act.Sort, act.Mass.Min, act.Mass.Max)
}

// Read returns the ground of a sheet, or the number of the first row that has another form.
func Read(text string) (g api.Ground, row int, e api.Errno) {
	if len(text) > api.MaxSheet {
		return api.Ground{}, 0, api.ErrLong
	}
	var s sheet
	kinds := rowKinds()
	bad := rows.Read(text, api.Range{Min: 0, Max: maxNumber}, func(next rows.Row) bool {
		kind, ok := kinds[next.Word]
		return ok && len(next.Numbers) == kind.numbers && kind.read(&s, next.Numbers)
	})
	if bad != 0 {
		return api.Ground{}, bad, api.ErrForm
	}
	if e := Check(api.Ground(s)); e != api.OK {
		return api.Ground{}, 0, e
	}
	return api.Ground(s), 0, api.OK
}

// sheet is the ground of the rows that were read.
type sheet api.Ground

// rowKind is how many numbers a row has, and what reads them and tells whether such a row may come there.
type rowKind struct {
	numbers int
	read    func(s *sheet, numbers []int) bool
}

// rowKinds returns the kinds of rows by their words.
func rowKinds() map[string]rowKind {
	return map[string]rowKind{
		spotWord: {3, (*sheet).addSpot},
		sortWord: {4, (*sheet).addSort},
		tipWord:  {5, (*sheet).addTip},
		takeWord: {4, (*sheet).addTake},
		rows.End: {1, (*sheet).isEnd},
	}
}

func (s *sheet) addSpot(numbers []int) bool {
	s.Spots = append(s.Spots, api.Spot{X: numbers[0], Y: numbers[1], Area: numbers[2]})
	return len(s.Sorts) == 0 && len(s.Acts) == 0
}

func (s *sheet) addSort(numbers []int) bool {
	s.Sorts = append(s.Sorts, api.Sort{High: numbers[0], Dense: numbers[1], Fire: numbers[2], Age: numbers[3]})
	return len(s.Acts) == 0
}

func (s *sheet) addTip(numbers []int) bool {
	mass := api.Range{Min: numbers[3], Max: numbers[4]}
	s.Acts = append(s.Acts, api.Act{Hour: numbers[0], Spot: numbers[1], Sort: numbers[2], Mass: mass})
	return true
}

func (s *sheet) addTake(numbers []int) bool {
	mass := api.Range{Min: numbers[2], Max: numbers[3]}
	s.Acts = append(s.Acts, api.Act{Hour: numbers[0], Spot: numbers[1], Mass: mass, Take: true})
	return true
}

func (s *sheet) isEnd(numbers []int) bool { return numbers[0] == len(s.Acts) }
