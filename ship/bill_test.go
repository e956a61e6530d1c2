package ship_test

import (
	"math/rand"
	"strings"
	"testing"

	"swarf/api"
	"swarf/ship"
)

// textV is the bill of V.
const textV = `barge 800 200 300 60
hold 400 2000 500
hold 400 500 2000
sill 30 40
level 0 1600 1650
sill 120 150
level 0 1300 1350
level 240 1600 1650
level 480 1200 1250
lot 200 220 50
lot 180 200 40
lot 150 150 45
end 3
`

// fullestText is the bill of the voyage with the greatest numbers.
func fullestText() string {
	levels := "sill 2880 2880\nlevel 0 10000 10000\nlevel 2876 10000 10000\nlevel 2877 10000 10000\nlevel 2878 10000 10000\nlevel 2879 10000 10000\nlevel 2880 10000 10000\n"
	return "barge 5000 5000 5000 2880\n" + strings.Repeat("hold 5000 10000 10000\n", 3) + strings.Repeat(levels, 4) + strings.Repeat("lot 5000 5000 100000\n", 6) + "end 6\n"
}

// TestP7_4Write: voyages and their bills, which are read again.
func TestP7_4Write(t *testing.T) {
	for _, c := range []struct {
		name string
		v    api.Voyage
		text string
	}{
		{"V", voyageV(), textV},
		{"one hold and one sill, without lots", withV(func(v *api.Voyage) { v.Holds, v.Sills, v.Lots = v.Holds[:1], v.Sills[:1], nil }), "barge 800 200 300 60\nhold 400 2000 500\nsill 30 40\nlevel 0 1600 1650\nend 0\n"},
		{"the least one", api.Voyage{Holds: []api.Hold{{}}}, "barge 0 0 0 0\nhold 0 0 0\nend 0\n"},
		{"lots without sills", api.Voyage{Holds: []api.Hold{{}}, Lots: []api.Cargo{lot(1, 2, 3)}}, "barge 0 0 0 0\nhold 0 0 0\nlot 1 2 3\nend 1\n"},
		{"each number in its place", api.Voyage{Light: 1, Under: 2, Trim: 3, Leaves: 4, Holds: []api.Hold{{Room: 5, Bow: 6, Stern: 7}}, Sills: []api.Sill{sill(8, 9, level(0, 10, 11), level(12, 13, 14))}, Lots: []api.Cargo{lot(15, 16, 17)}}, "barge 1 2 3 4\nhold 5 6 7\nsill 8 9\nlevel 0 10 11\nlevel 12 13 14\nlot 15 16 17\nend 1\n"},
		{"the greatest one", fullest(), fullestText()},
	} {
		if text, e := ship.Write(c.v); text != c.text || e != api.OK {
			t.Errorf("%s: %q %d, not %q", c.name, text, e, c.text)
		}
		if v, row, e := ship.Read(c.text); !sameVoyage(v, c.v) || row != 0 || e != api.OK {
			t.Errorf("%s: read %v %d %d", c.name, v, row, e)
		}
	}
}

// TestP7_4Read: bills with errors, and the rows in which they are.
func TestP7_4Read(t *testing.T) {
	const barge, hold = "barge 0 0 0 0\n", "barge 0 0 0 0\nhold 0 0 0\n"
	const sill, lot = hold + "sill 0 0\nlevel 0 0 0\n", hold + "lot 0 0 0\n"
	for _, c := range []struct {
		text string
		row  int
		want api.Errno
	}{
		{strings.Repeat("x", 2501), 0, api.ErrLong},
		{strings.Repeat("x", 2500), 1, api.ErrForm},
		{barge + strings.Repeat("hold 0 0 0\n", 226), 228, api.ErrForm},
		{barge + strings.Repeat("hold 0 0 0\n", 225) + "end 0\nhold\n", 228, api.ErrForm},
		{barge + strings.Repeat("hold 0 0 0\n", 225) + "end 0\n", 0, api.ErrMany},
		{barge + strings.Repeat("hold 0 0 0\n", 226) + "\n", 0, api.ErrLong},
		{"", 1, api.ErrForm},
		{"\n", 1, api.ErrForm},
		{"end 0\n", 1, api.ErrForm},
		{"hold 0 0 0\nend 0\n", 1, api.ErrForm},
		{"sill 0 0\n", 1, api.ErrForm},
		{"level 0 0 0\n", 1, api.ErrForm},
		{"lot 0 0 0\n", 1, api.ErrForm},
		{"\n" + hold + "end 0\n", 1, api.ErrForm},
		{barge + barge, 2, api.ErrForm},
		{hold + barge, 3, api.ErrForm},
		{sill + barge, 5, api.ErrForm},
		{lot + barge, 4, api.ErrForm},
		{"barge 0 0 0\n", 1, api.ErrForm},
		{"barge 0 0 0 0 0\n", 1, api.ErrForm},
		{"barge\n", 1, api.ErrForm},
		{barge + "hold 0 0\n", 2, api.ErrForm},
		{barge + "hold 0 0 0 0\n", 2, api.ErrForm},
		{barge + "hold\n", 2, api.ErrForm},
		{hold + "sill 0\n", 3, api.ErrForm},
		{hold + "sill 0 0 0\n", 3, api.ErrForm},
		{hold + "sill 0 0\nlevel 0 0\n", 4, api.ErrForm},
		{hold + "sill 0 0\nlevel 0 0 0 0\n", 4, api.ErrForm},
		{hold + "lot 0 0\n", 3, api.ErrForm},
		{hold + "lot 0 0 0 0\n", 3, api.ErrForm},
		{hold + "end\n", 3, api.ErrForm},
		{hold + "end 0 0\n", 3, api.ErrForm},
		{hold + "level 0 0 0\n", 3, api.ErrForm},
		{barge + "level 0 0 0\n", 2, api.ErrForm},
		{sill + "hold 0 0 0\n", 5, api.ErrForm},
		{hold + "sill 0 0\nhold 0 0 0\n", 4, api.ErrForm},
		{lot + "hold 0 0 0\n", 4, api.ErrForm},
		{lot + "sill 0 0\n", 4, api.ErrForm},
		{lot + "level 0 0 0\n", 4, api.ErrForm},
		{sill + "lot 0 0 0\nlevel 1 0 0\n", 6, api.ErrForm},
		{sill + "lot 0 0 0\nsill 0 0\n", 6, api.ErrForm},
		{sill + "lot 0 0 0\nhold 0 0 0\n", 6, api.ErrForm},
		{hold + "end 1\n", 3, api.ErrForm},
		{lot + "end 0\n", 4, api.ErrForm},
		{lot + "end 2\n", 4, api.ErrForm},
		{hold, 3, api.ErrForm},
		{lot, 4, api.ErrForm},
		{hold + "\n", 3, api.ErrForm},
		{hold + "end 0", 3, api.ErrForm},
		{hold + "end 0\n\n", 4, api.ErrForm},
		{hold + "end 0\nend 0\n", 4, api.ErrForm},
		{hold + "end 0\nx", 4, api.ErrForm},
		{hold + "end 00\n", 3, api.ErrForm},
		{hold + "end -0\n", 3, api.ErrForm},
		{hold + "end  0\n", 3, api.ErrForm},
		{hold + "end 0 \n", 3, api.ErrForm},
		{hold + " end 0\n", 3, api.ErrForm},
		{hold + "end 0\r\n", 3, api.ErrForm},
		{hold + "End 0\n", 3, api.ErrForm},
		{hold + "holds 0 0 0\n", 3, api.ErrForm},
		{hold + "Lot 0 0 0\n", 3, api.ErrForm},
		{hold + "lot 0 0 00\n", 3, api.ErrForm},
		{hold + "lot 0 01 0\n", 3, api.ErrForm},
		{hold + "lot +1 1 0\n", 3, api.ErrForm},
		{hold + "lot -1 1 0\n", 3, api.ErrForm},
		{hold + "lot 0 ٣ 0\n", 3, api.ErrForm},
		{hold + "lot 0 0x1 0\n", 3, api.ErrForm},
		{hold + "lot 0 1_0 0\n", 3, api.ErrForm},
		{hold + "lot 0  0 0\n", 3, api.ErrForm},
		{hold + "lot\t0 0 0\n", 3, api.ErrForm},
		{hold + "lot 0 0 1000000\nend 1\n", 3, api.ErrForm},
		{hold + "lot 0 0 999999\nend 1\n", 0, api.ErrValue},
		{"barge 1000000 0 0 0\n", 1, api.ErrForm},
		{"barge 999999 0 0 0\nhold 0 0 0\nend 0\n", 0, api.ErrValue},
		{barge + "end 0\n", 0, api.ErrFew},
		{barge + "lot 0 0 0\nend 1\n", 0, api.ErrFew},
		{barge + "sill 0 0\nlot 0 0 0\nend 1\n", 0, api.ErrFew},
		{hold + "sill 0 0\nend 0\n", 0, api.ErrFew},
		{hold + "sill 0 0\nsill 0 0\nlevel 0 0 0\nend 0\n", 0, api.ErrFew},
		{hold + "sill 0 0\nlevel 1 0 0\nend 0\n", 0, api.ErrForm},
		{sill + "level 0 0 0\nend 0\n", 0, api.ErrOrder},
		{hold + "sill 1 0\nlevel 0 0 0\nend 0\n", 0, api.ErrOrder},
		{hold + strings.Repeat("lot 0 0 0\n", 7) + "end 7\n", 0, api.ErrMany},
	} {
		v, row, e := ship.Read(c.text)
		if row != c.row || e != c.want || !isEmpty(v) {
			t.Errorf("%.99q: %v %d %d, not %d %d", c.text, v, row, e, c.row, c.want)
		}
	}
}

// TestP7_13Bills: a bill is read from its voyage, and what is read is written as it was.
func TestP7_13Bills(t *testing.T) {
	r := rand.New(rand.NewSource(13))
	refused, other := 0, 0
	for range 4000 {
		v := anyVoyage(r)
		text, e := ship.Write(v)
		if e != api.OK {
			t.Fatalf("%v: %d", v, e)
		}
		read, row, e := ship.Read(text)
		if e != api.OK || row != 0 || !sameVoyage(read, v) {
			t.Fatalf("%q: %v %d %d, not %v", text, read, row, e, v)
		}
		changed := spoilt(r, text)
		if read, row, e = ship.Read(changed); e != api.OK {
			refused++
			if !isEmpty(read) || row != 0 && e != api.ErrForm {
				t.Fatalf("%q: %v %d %d", changed, read, row, e)
			}
			continue
		}
		other++
		if again, e := ship.Write(read); e != api.OK || again != changed {
			t.Fatalf("%q is read, but written %q %d", changed, again, e)
		}
	}
	if refused < 1000 || other < 500 {
		t.Error("too few bills were looked at", refused, other)
	}
}

// spoilt returns a text of which one byte is changed, or two rows have changed places.
func spoilt(r *rand.Rand, text string) string {
	if r.Intn(4) == 0 {
		rows := strings.SplitAfter(text, "\n")
		i, j := r.Intn(len(rows)), r.Intn(len(rows))
		rows[i], rows[j] = rows[j], rows[i]
		return strings.Join(rows, "")
	}
	changed := []byte(text)
	changed[r.Intn(len(changed))] = " \n-0123459e"[r.Intn(11)]
	return string(changed)
}
