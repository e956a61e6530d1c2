package ship

import (
	"swarf/api"
	"swarf/rows"
)

// The words of the rows of a bill that are not the end.
const (
	bargeWord = "barge"
	holdWord  = "hold"
	sillWord  = "sill"
	levelWord = "level"
	lotWord   = "lot"
)

// maxNumber is the greatest number of a bill: it has six digits.
const maxNumber = 999999

// Write returns the bill of a voyage.
func Write(v api.Voyage) (string, api.Errno) {
	if e := Check(v); e != api.OK {
		return "", e
	}
	text := rows.Write(bargeWord, v.Light, v.Under, v.Trim, v.Leaves)
	for _, hold := range v.Holds {
		text += rows.Write(holdWord, hold.Room, hold.Bow, hold.Stern)
	}
	for _, sill := range v.Sills {
		text += writeSill(sill)
	}
	for _, lot := range v.Lots {
		text += rows.Write(lotWord, lot.Tonnes.Min, lot.Tonnes.Max, lot.Worth)
	}
	return text + rows.Write(rows.End, len(v.Lots)), api.OK
}

// writeSill returns the rows of a sill and its levels.
func writeSill(sill api.Sill) string {
	text := rows.Write(sillWord, sill.Travel.Min, sill.Travel.Max)
	for _, level := range sill.Levels {
		text += rows.Write(levelWord, level.From, level.Depth.Min, level.Depth.Max)
	}
	return text
}

// Read returns the voyage of a bill, or the number of the first row that has another form.
func Read(text string) (v api.Voyage, row int, e api.Errno) {
	if len(text) > api.MaxFreight {
		return api.Voyage{}, 0, api.ErrLong
	}
	var b bill
	if bad := rows.Read(text, api.Range{Min: 0, Max: maxNumber}, b.take); bad != 0 {
		return api.Voyage{}, bad, api.ErrForm
	}
	if e := Check(api.Voyage(b)); e != api.OK {
		return api.Voyage{}, 0, e
	}
	return api.Voyage(b), 0, api.OK
}

// bill is the voyage of the rows that were read.
type bill api.Voyage

// take reads a row, and tells whether such a row may come there.
func (b *bill) take(row rows.Row) bool {
	later := 0 // how many rows were read that come after all of this kind
	switch row.Word {
	case holdWord:
		later += len(b.Sills)
		fallthrough
	case sillWord, levelWord:
		later += len(b.Lots)
	}
	isFirst := row.At == 1
	return later == 0 && isFirst == (row.Word == bargeWord) && b.add(row)
}

// add reads a row that comes in its order, and tells whether there is such a row.
func (b *bill) add(row rows.Row) bool {
	numbers := row.Numbers
	switch {
	case row.Is(bargeWord, 4):
		b.Light, b.Under, b.Trim, b.Leaves = numbers[0], numbers[1], numbers[2], numbers[3]
	case row.Is(holdWord, 3):
		b.Holds = append(b.Holds, api.Hold{Room: numbers[0], Bow: numbers[1], Stern: numbers[2]})
	case row.Is(sillWord, 2):
		b.Sills = append(b.Sills, api.Sill{Travel: api.Range{Min: numbers[0], Max: numbers[1]}})
	case row.Is(levelWord, 3):
		return b.addLevel(numbers)
	case row.Is(lotWord, 3):
		b.Lots = append(b.Lots, api.Cargo{Tonnes: api.Range{Min: numbers[0], Max: numbers[1]}, Worth: numbers[2]})
	default:
		return row.Is(rows.End, 1) && numbers[0] == len(b.Lots)
	}
	return true
}

// addLevel reads the row of a level, and tells whether there is a sill that has it.
func (b *bill) addLevel(numbers []int) bool {
	last := len(b.Sills) - 1
	if last < 0 {
		return false
	}
	level := api.Level{From: numbers[0], Depth: api.Range{Min: numbers[1], Max: numbers[2]}}
	b.Sills[last].Levels = append(b.Sills[last].Levels, level)
	return true
}
