package rows_test

import (
	"slices"
	"testing"

	"swarf/api"
	"swarf/rows"
)

// TestWrite: rows with and without numbers.
func TestWrite(t *testing.T) {
	if a, b := rows.Write("load", 0, -12, 345), rows.Write(rows.End); a != "load 0 -12 345\n" || b != "end\n" {
		t.Errorf("%q %q", a, b)
	}
}

// TestIs: the word and how many numbers there are.
func TestIs(t *testing.T) {
	row := rows.Row{Word: "load", Numbers: []int{7, 8}}
	if !row.Is("load", 2) || row.Is("load", 1) || row.Is("load", 3) || row.Is("tip", 2) {
		t.Error("a row is not what it is")
	}
}

// TestNumbers: words that are numbers within the bounds -5..99, and words of which one is not.
func TestNumbers(t *testing.T) {
	for _, c := range []struct {
		words []string
		want  []int
		ok    bool
	}{
		{nil, nil, true},
		{[]string{"0", "-5", "99"}, []int{0, -5, 99}, true},
		{[]string{"0", "-6"}, nil, false},
		{[]string{"100", "0"}, nil, false},
		{[]string{""}, nil, false},
		{[]string{"00"}, nil, false},
		{[]string{"+1"}, nil, false},
	} {
		if list, ok := rows.Numbers(c.words, api.Range{Min: -5, Max: 99}); !slices.Equal(list, c.want) || ok != c.ok {
			t.Errorf("%q: %v %v", c.words, list, ok)
		}
	}
}

// isTaken takes all rows but those with the word "no".
func isTaken(row rows.Row) bool { return row.Word != "no" }

// TestRead: texts within the bounds -5..99, and the first row that is not as said.
func TestRead(t *testing.T) {
	for _, c := range []struct {
		text string
		want int
	}{
		{"end\n", 0},
		{"a 1 -5\nb\nend 99 0\n", 0},
		{"", 1},
		{"\n", 2},
		{"end", 1},
		{"a\n", 2},
		{"a\nb", 2},
		{"a\nend 1", 2},
		{"a\nend 1\nx", 3},
		{"a\nend 1\n\n", 3},
		{"a\nend 1\nend 1\n", 3},
		{"a\nno\nend\n", 2},
		{"a\nno\na 01\nend\n", 2},
		{"a 100\nend\n", 1},
		{"a -6\nend\n", 1},
		{"a 1 100\nend\n", 1},
		{"a 99999999999999999999\nend\n", 1},
		{"a 01\nend\n", 1},
		{"a -0\nend\n", 1},
		{"a +1\nend\n", 1},
		{"a 1_0\nend\n", 1},
		{"a 0x1\nend\n", 1},
		{"a ٣\nend\n", 1},
		{"a b\nend\n", 1},
		{"a  1\nend\n", 1},
		{"a 1 \nend\n", 1},
		{"a\t1\nend\n", 0},
		{"a 1\r\nend\n", 1},
		{" a\nend\n", 1},
		{"a\nend x\n", 2},
	} {
		if bad := rows.Read(c.text, api.Range{Min: -5, Max: 99}, isTaken); bad != c.want {
			t.Errorf("%q: %d, not %d", c.text, bad, c.want)
		}
	}
}

// TestReadRows: rows are handed out in their order, with their numbers, up to the end, and no more after one that was not taken.
func TestReadRows(t *testing.T) {
	var list []rows.Row
	take := func(row rows.Row) bool {
		list = append(list, row)
		return isTaken(row)
	}
	if bad := rows.Read("a 3 4\nb\nend 2\n", api.Range{Max: 9}, take); bad != 0 {
		t.Error(bad)
	}
	want := []rows.Row{{At: 1, Word: "a", Numbers: []int{3, 4}}, {At: 2, Word: "b"}, {At: 3, Word: rows.End, Numbers: []int{2}}}
	isSame := func(a, b rows.Row) bool {
		return a.At == b.At && a.Word == b.Word && slices.Equal(a.Numbers, b.Numbers)
	}
	if !slices.EqualFunc(list, want, isSame) {
		t.Error(list)
	}
	list = nil
	if bad := rows.Read("a\nno\nb\nend\n", api.Range{Max: 9}, take); bad != 2 || len(list) != 2 {
		t.Error(bad, list)
	}
}

// TestSeparator: rows with another separator are written and read as those with blanks, which then separate nothing.
func TestSeparator(t *testing.T) {
	const comma rows.Separator = ","
	if a, b := comma.Write("load", 0, -12, 345), comma.Write(rows.End); a != "load,0,-12,345\n" || b != "end\n" {
		t.Errorf("%q %q", a, b)
	}
	for _, c := range []struct {
		text string
		want int
	}{
		{"end\n", 0},
		{"a,1,-5\nb\nend,99,0\n", 0},
		{"no\nend\n", 1},
		{"a 1\nno\nend\n", 2},
		{"a,1 2\nend\n", 1},
		{"a, 1\nend\n", 1},
		{"a,,1\nend\n", 1},
		{"a,1,\nend\n", 1},
		{"a,100\nend\n", 1},
		{"a,01\nend\n", 1},
		{"a\nend 1\n", 3},
		{"a\nend,1", 2},
		{"a\nend,1\nx", 3},
	} {
		if bad := comma.Read(c.text, api.Range{Min: -5, Max: 99}, isTaken); bad != c.want {
			t.Errorf("%q: %d, not %d", c.text, bad, c.want)
		}
	}
}

// TestStyle: rows with one mark after their word, and another one between two numbers.
func TestStyle(t *testing.T) {
	style := rows.Style{AfterWord: "=", Between: ","}
	if a, b, c := style.Write("load", 0, -12, 345), style.Write("tip", 6), style.Write(rows.End); a != "load=0,-12,345\n" || b != "tip=6\n" || c != "end\n" {
		t.Errorf("%q %q %q", a, b, c)
	}
	for _, c := range []struct {
		text string
		want int
	}{
		{"end\n", 0},
		{"a=1,-5\nb\nend=99,0\n", 0},
		{"no=1\nend\n", 1},
		{"a,1\nend\n", 0},
		{"a=\nend\n", 1},
		{"a\nend=\n", 2},
		{"a=1,\nend\n", 1},
		{"a=,1\nend\n", 1},
		{"a=1,,2\nend\n", 1},
		{"a=1=2\nend\n", 1},
		{"a==1\nend\n", 1},
		{"a=1;2\nend\n", 1},
		{"a=100\nend\n", 1},
		{"a=01\nend\n", 1},
		{"a\nend,1\n", 3},
		{"a\nend=1", 2},
		{"a\nend=1\nx", 3},
	} {
		if bad := style.Read(c.text, api.Range{Min: -5, Max: 99}, isTaken); bad != c.want {
			t.Errorf("%q: %d, not %d", c.text, bad, c.want)
		}
	}
	var list []rows.Row
	take := func(row rows.Row) bool {
		list = append(list, row)
		return true
	}
	style.Read("a=3,4\nb,5\nend\n", api.Range{Max: 9}, take)
	if len(list) != 3 || !list[0].Is("a", 2) || !slices.Equal(list[0].Numbers, []int{3, 4}) || !list[1].Is("b,5", 0) || !list[2].Is(rows.End, 0) {
		t.Error(list)
	}
}
