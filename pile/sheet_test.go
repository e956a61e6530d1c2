package pile_test

import (
	"math/rand"
	"slices"
	"strings"
	"testing"

	"swarf/api"
	"swarf/pile"
)

const (
	sheetG  = "spot 0 0 10\nspot 4 0 10\nspot 30 0 20\nsort 200 1000 5 72\nsort 300 200 12 10\ntip 1 0 0 8000 9000\ntip 2 2 1 2000 2500\ntip 3 0 0 11500 12000\ntake 5 0 5000 6000\ntip 8 1 1 1000 1000\nend 5\n"
	spotRow = "spot 0 0 1\n"
	sortRow = "sort 1 1 0 0\n"
	head    = spotRow + sortRow
)

// TestP5_4Write: the sheets of the examples, of the smallest and of a long ground, and of one that may not be.
func TestP5_4Write(t *testing.T) {
	long := api.Ground{
		Spots: slices.Repeat([]api.Spot{{X: 1000, Y: 1000, Area: 1000}}, 4),
		Sorts: slices.Repeat([]api.Sort{{High: 1000, Dense: 8000, Fire: 100, Age: 72}}, 4),
		Acts:  slices.Repeat([]api.Act{tip(72, 3, 3, 1000000, 1000000)}, 10),
	}
	for _, c := range []struct {
		g    api.Ground
		want string
	}{
		{groundG(), sheetG},
		{withF(func(g *api.Ground) { g.Acts = []api.Act{take(5, 0, 1, 2)} }), "spot 0 0 10\nspot 4 0 10\nspot 30 0 20\nsort 200 1000 5 72\nsort 300 200 12 10\ntake 5 0 1 2\nend 1\n"},
		{sorted(api.Sort{High: 1, Dense: 1}, 1), head + "end 0\n"},
		{sorted(api.Sort{High: 1, Dense: 2, Fire: 3, Age: 4}, 7, tip(5, 0, 0, 6, 8)), "spot 0 0 7\nsort 1 2 3 4\ntip 5 0 0 6 8\nend 1\n"},
		{long, strings.Repeat("spot 1000 1000 1000\n", 4) + strings.Repeat("sort 1000 8000 100 72\n", 4) + strings.Repeat("tip 72 3 3 1000000 1000000\n", 10) + "end 10\n"},
	} {
		text, e := pile.Write(c.g)
		if text != c.want || e != api.OK {
			t.Errorf("%v: %q %d", c.g, text, e)
		}
		if g, row, e := pile.Read(text); !sameGround(g, c.g) || row != 0 || e != api.OK {
			t.Errorf("%q: %v %d %d", text, g, row, e)
		}
	}
}

// TestP5_4Read: sheets with errors, and the rows in which they are.
func TestP5_4Read(t *testing.T) {
	const tipRow, takeRow = "tip 0 0 0 1 1\n", "take 0 0 1 1\n"
	for _, c := range []struct {
		text string
		row  int
		want api.Errno
	}{
		{strings.Repeat("x", 2501), 0, api.ErrLong},
		{strings.Repeat("x", 2500), 1, api.ErrForm},
		{head + "end 0\n" + strings.Repeat("\n", 2500), 0, api.ErrLong},
		{"", 1, api.ErrForm},
		{"\n", 1, api.ErrForm},
		{"spot 0 0 1", 1, api.ErrForm},
		{"spot 0 0\n", 1, api.ErrForm},
		{"spot 0 0 1 1\n", 1, api.ErrForm},
		{"spot\n", 1, api.ErrForm},
		{"Spot 0 0 1\n", 1, api.ErrForm},
		{"spots 0 0 1\n", 1, api.ErrForm},
		{" spot 0 0 1\n", 1, api.ErrForm},
		{"spot 0 0 1 \n", 1, api.ErrForm},
		{"spot  0 0 1\n", 1, api.ErrForm},
		{"spot\t0 0 1\n", 1, api.ErrForm},
		{"spot 0 0 1\r\n", 1, api.ErrForm},
		{"spot 0 0 x\n", 1, api.ErrForm},
		{"spot 0 0 01\n", 1, api.ErrForm},
		{"spot 00 0 1\n", 1, api.ErrForm},
		{"spot -0 0 1\n", 1, api.ErrForm},
		{"spot -1 0 1\n", 1, api.ErrForm},
		{"spot +1 0 1\n", 1, api.ErrForm},
		{"spot 1_0 0 1\n", 1, api.ErrForm},
		{"spot 1.0 0 1\n", 1, api.ErrForm},
		{"spot ٣ 0 1\n", 1, api.ErrForm},
		{"spot 0 0 10000000\n", 1, api.ErrForm},
		{"spot 0 0 99999999999999999999\n", 1, api.ErrForm},
		{"spot 0 0 9999999\n" + sortRow + "end 0\n", 0, api.ErrValue},
		{"end 0\n", 0, api.ErrFew},
		{"end 1\n", 1, api.ErrForm},
		{spotRow, 2, api.ErrForm},
		{spotRow + "end 0\n", 0, api.ErrFew},
		{sortRow + "end 0\n", 0, api.ErrFew},
		{sortRow + spotRow + "end 0\n", 2, api.ErrForm},
		{takeRow + spotRow + "end 1\n", 2, api.ErrForm},
		{tipRow + spotRow + "end 1\n", 2, api.ErrForm},
		{spotRow + tipRow + sortRow + "end 1\n", 3, api.ErrForm},
		{spotRow + takeRow + sortRow + "end 1\n", 3, api.ErrForm},
		{spotRow + takeRow + "end 1\n", 0, api.ErrFew},
		{takeRow + "end 1\n", 0, api.ErrFew},
		{strings.Repeat(spotRow, 5) + sortRow + "end 0\n", 0, api.ErrMany},
		{spotRow + strings.Repeat(sortRow, 5) + "end 0\n", 0, api.ErrMany},
		{spotRow + "sort 1 1 0\nend 0\n", 2, api.ErrForm},
		{spotRow + "sort 1 1 0 0 0\nend 0\n", 2, api.ErrForm},
		{spotRow + "sort 1 1 0 101\nend 0\n", 0, api.ErrValue},
		{head, 3, api.ErrForm},
		{head + "\nend 0\n", 3, api.ErrForm},
		{head + spotRow + "end 0\n", 3, api.ErrForm},
		{head + "heap 0\nend 0\n", 3, api.ErrForm},
		{head + "tip 0 0 1 1\nend 1\n", 3, api.ErrForm},
		{head + "tip 0 0 0 1 1 1\nend 1\n", 3, api.ErrForm},
		{head + "tip 0 0 0 1..1\nend 1\n", 3, api.ErrForm},
		{head + "take 0 0 0 1 1\nend 1\n", 3, api.ErrForm},
		{head + "take 0 0 1\nend 1\n", 3, api.ErrForm},
		{head + "take 0 0 1 01\nend 1\n", 3, api.ErrForm},
		{head + tipRow + "take 0 0 1 x\nend 2\n", 4, api.ErrForm},
		{head + tipRow + sortRow + "end 1\n", 4, api.ErrForm},
		{head + takeRow + sortRow + "end 1\n", 4, api.ErrForm},
		{head + takeRow + spotRow + "end 1\n", 4, api.ErrForm},
		{head + tipRow, 4, api.ErrForm},
		{head + "tip 0 0 0 1 1", 3, api.ErrForm},
		{head + "tip 73 0 0 1 1\nend 1\n", 0, api.ErrValue},
		{head + "tip 1 0 0 1 1\ntip 0 0 0 1 1\nend 2\n", 0, api.ErrOrder},
		{head + "tip 0 1 0 0 0\nend 1\n", 0, api.ErrUnknown},
		{head + "tip 0 0 1 0 0\nend 1\n", 0, api.ErrUnknown},
		{head + "tip 0 0 0 0 1\nend 1\n", 0, api.ErrValue},
		{head + "take 0 0 2 1\nend 1\n", 0, api.ErrOrder},
		{head + strings.Repeat(tipRow, 11) + "end 11\n", 0, api.ErrMany},
		{head + "end 0", 3, api.ErrForm},
		{head + "end\n", 3, api.ErrForm},
		{head + "end 0 0\n", 3, api.ErrForm},
		{head + "end 00\n", 3, api.ErrForm},
		{head + "end 1\n", 3, api.ErrForm},
		{head + tipRow + "end 0\n", 4, api.ErrForm},
		{head + tipRow + "end 2\n", 4, api.ErrForm},
		{head + tipRow + "end 2\nx", 4, api.ErrForm},
		{head + "end 0\nx", 4, api.ErrForm},
		{head + "end 0\n\n", 4, api.ErrForm},
		{head + "end 0\nend 0\n", 4, api.ErrForm},
		{head + "end 0\n" + takeRow + "end 1\n", 4, api.ErrForm},
	} {
		g, row, e := pile.Read(c.text)
		if row != c.row || e != c.want || !sameGround(g, api.Ground{}) {
			t.Errorf("%q: %v %d %d, not %d %d", c.text, g, row, e, c.row, c.want)
		}
	}
}

// TestP5_13Sheets: a sheet is read from its ground, and what is read is written as it was.
func TestP5_13Sheets(t *testing.T) {
	r := rand.New(rand.NewSource(13))
	for range 500 {
		g := randomGround(r, great)
		text, e := pile.Write(g)
		if e != api.OK || len(text) > api.MaxSheet {
			t.Fatalf("%v: %q %d", g, text, e)
		}
		read, row, e := pile.Read(text)
		if e != api.OK || row != 0 || !sameGround(read, g) {
			t.Fatalf("%q: %v %d %d, not %v", text, read, row, e, g)
		}
		spoil(t, r, text)
	}
}

// spoil changes one byte of a sheet: it is refused, or is the sheet of what is read.
func spoil(t *testing.T, r *rand.Rand, text string) {
	t.Helper()
	changed := []byte(text)
	changed[r.Intn(len(changed))] = " \n-019ae"[r.Intn(8)]
	g, row, e := pile.Read(string(changed))
	if e != api.OK {
		return
	}
	if again, f := pile.Write(g); row != 0 || f != api.OK || again != string(changed) {
		t.Fatalf("%q is read, but written %q %d", changed, again, f)
	}
}
