package papers

import (
	"swarf/api"
	"swarf/rows"
)

// The words of the lines of a folder that are not the end.
const (
	landsWord = "lands"
	roadWord  = "road"
	paperWord = "paper"
)

// maxNumber is the greatest number of a folder: it has seven digits.
const maxNumber = 9999999

// style returns how the lines of a folder are written.
func style() rows.Style { return rows.Style{AfterWord: "=", Between: ","} }

// Folder returns the folder of a zone.
func Folder(z api.Zone) (string, api.Errno) {
	if e := Check(z); e != api.OK {
		return "", e
	}
	lines := style()
	text := lines.Write(landsWord, z.Lands)
	for _, road := range z.Roads {
		text += lines.Write(roadWord, road.A, road.B, road.Days)
	}
	for _, paper := range z.Papers {
		text += lines.Write(paperWord, paper.Land, paper.Code, paper.First, paper.Last, paper.Kilos)
	}
	return text + lines.Write(rows.End), api.OK
}

// Parse returns the zone of a folder, or the number of the first line that has another form.
func Parse(text string) (z api.Zone, line int, e api.Errno) {
	if len(text) > api.MaxFolder {
		return api.Zone{}, 0, api.ErrLong
	}
	var f folder
	if bad := style().Read(text, api.Range{Min: 0, Max: maxNumber}, f.take); bad != 0 {
		return api.Zone{}, bad, api.ErrForm
	}
	if e := Check(api.Zone(f)); e != api.OK {
		return api.Zone{}, 0, e
	}
	return api.Zone(f), 0, api.OK
}

// What a line of a folder says, beside a road and a paper: how many lands there are, or that it is the last one.
type (
	landsLine int
	lastLine  struct{}
)

// lineOf returns what a line says, or nil if it has another form.
func lineOf(row rows.Row) any {
	numbers := row.Numbers
	switch {
	case row.Is(landsWord, 1):
		return landsLine(numbers[0])
	case row.Is(roadWord, 3):
		return api.Road{A: numbers[0], B: numbers[1], Days: numbers[2]}
	case row.Is(paperWord, 5):
		return api.Paper{Land: numbers[0], Code: numbers[1], First: numbers[2], Last: numbers[3], Kilos: numbers[4]}
	case row.Is(rows.End, 0):
		return lastLine{}
	}
	return nil
}

// folder is the zone of the lines that were read.
type folder api.Zone

// take reads a line, and tells whether such a line may come there.
func (f *folder) take(row rows.Row) bool {
	isFirst := row.At == 1
	switch line := lineOf(row).(type) {
	case landsLine:
		f.Lands = int(line)
		return isFirst
	case api.Road:
		f.Roads = append(f.Roads, line)
		return !isFirst && len(f.Papers) == 0
	case api.Paper:
		f.Papers = append(f.Papers, line)
		return !isFirst
	case lastLine:
		return !isFirst
	}
	return false
}
