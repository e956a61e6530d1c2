package papers_test

import (
	"math/rand"
	"slices"
	"strings"
	"testing"

	"swarf/api"
	"swarf/papers"
)

// textZ is the folder of Z.
const textZ = `lands=4
road=0,1,1
road=1,2,2
road=0,3,1
road=3,2,1
paper=0,5,0,100,5000
paper=1,5,0,10,3000
paper=1,5,0,100,2500
paper=2,5,0,100,9000
paper=3,5,20,100,4000
end
`

// fullest is the zone with the longest folder that there is.
func fullest() api.Zone {
	z := api.Zone{Lands: 6, Papers: slices.Repeat([]api.Paper{paper(5, 9, 2000, 2000, 100000)}, 12)}
	for b := 1; len(z.Roads) < 12; b++ {
		for a := range min(b, 12-len(z.Roads)) {
			z.Roads = append(z.Roads, road(a, b, 30))
		}
	}
	return z
}

// fullestText is the folder of that zone.
func fullestText() string {
	roads := "road=0,1,30\nroad=0,2,30\nroad=1,2,30\nroad=0,3,30\nroad=1,3,30\nroad=2,3,30\nroad=0,4,30\nroad=1,4,30\nroad=2,4,30\nroad=3,4,30\nroad=0,5,30\nroad=1,5,30\n"
	return "lands=6\n" + roads + strings.Repeat("paper=5,9,2000,2000,100000\n", 12) + "end\n"
}

// TestP9_5Folder: zones and their folders, which are read again.
func TestP9_5Folder(t *testing.T) {
	for _, c := range []struct {
		name string
		z    api.Zone
		text string
	}{
		{"Z", zoneZ(), textZ},
		{"Z with the first road and the first paper alone", withZ(func(z *api.Zone) { z.Roads, z.Papers = z.Roads[:1], z.Papers[:1] }), "lands=4\nroad=0,1,1\npaper=0,5,0,100,5000\nend\n"},
		{"the least one", api.Zone{Lands: 1}, "lands=1\nend\n"},
		{"roads without papers", api.Zone{Lands: 3, Roads: []api.Road{road(2, 0, 0), road(1, 2, 30)}}, "lands=3\nroad=2,0,0\nroad=1,2,30\nend\n"},
		{"papers without roads", alone(0, 7), "lands=1\npaper=0,0,3,9,0\npaper=0,0,3,9,7\nend\n"},
		{"the longest one", fullest(), fullestText()},
	} {
		if text, e := papers.Folder(c.z); text != c.text || e != api.OK {
			t.Errorf("%s: %q %d, not %q", c.name, text, e, c.text)
		}
		if z, line, e := papers.Parse(c.text); !sameZone(z, c.z) || line != 0 || e != api.OK {
			t.Errorf("%s: read %v %d %d", c.name, z, line, e)
		}
	}
}

// TestP9_5Parse: folders with errors, and the lines in which they are.
func TestP9_5Parse(t *testing.T) {
	const head, onRoad, onPaper = "lands=2\n", "lands=2\nroad=0,1,3\n", "lands=2\npaper=1,0,4,9,7\n"
	for _, c := range []struct {
		text string
		line int
		want api.Errno
	}{
		{strings.Repeat("x", 1501), 0, api.ErrLong},
		{strings.Repeat("x", 1500), 1, api.ErrForm},
		{head + strings.Repeat("paper=0,0,0,0,0\n", 93) + "end", 95, api.ErrForm},
		{head + strings.Repeat("paper=0,0,0,0,0\n", 93) + "end\n", 0, api.ErrMany},
		{head + strings.Repeat("paper=0,0,0,0,0\n", 93) + "end\n\n", 0, api.ErrLong},
		{head + strings.Repeat("paper=0,0,0,0,0\n", 92) + "end\n" + "paper=0,0,0,0,0\n", 95, api.ErrForm},
		{"", 1, api.ErrForm},
		{"\n", 1, api.ErrForm},
		{"end\n", 1, api.ErrForm},
		{"road=0,1,3\nend\n", 1, api.ErrForm},
		{"paper=1,0,4,9,7\nend\n", 1, api.ErrForm},
		{"\n" + head + "end\n", 1, api.ErrForm},
		{"lands\nend\n", 1, api.ErrForm},
		{"lands=\nend\n", 1, api.ErrForm},
		{"lands=2,3\nend\n", 1, api.ErrForm},
		{"lands=2,\nend\n", 1, api.ErrForm},
		{"lands=2=3\nend\n", 1, api.ErrForm},
		{"lands==2\nend\n", 1, api.ErrForm},
		{"lands,2\nend\n", 1, api.ErrForm},
		{"lands 2\nend\n", 1, api.ErrForm},
		{"lands= 2\nend\n", 1, api.ErrForm},
		{" lands=2\nend\n", 1, api.ErrForm},
		{"lands=2 \nend\n", 1, api.ErrForm},
		{"Lands=2\nend\n", 1, api.ErrForm},
		{"land=2\nend\n", 1, api.ErrForm},
		{"=2\nend\n", 1, api.ErrForm},
		{"2\nend\n", 1, api.ErrForm},
		{head + head + "end\n", 2, api.ErrForm},
		{onRoad + head + "end\n", 3, api.ErrForm},
		{onPaper + head + "end\n", 3, api.ErrForm},
		{head + "road=0,1\nend\n", 2, api.ErrForm},
		{head + "road=0,1,3,4\nend\n", 2, api.ErrForm},
		{head + "road=0,1,3,\nend\n", 2, api.ErrForm},
		{head + "road=,0,1,3\nend\n", 2, api.ErrForm},
		{head + "road\nend\n", 2, api.ErrForm},
		{head + "road=\nend\n", 2, api.ErrForm},
		{head + "road,0,1,3\nend\n", 2, api.ErrForm},
		{head + "road=0=1=3\nend\n", 2, api.ErrForm},
		{head + "road=0;1;3\nend\n", 2, api.ErrForm},
		{head + "road=0, 1,3\nend\n", 2, api.ErrForm},
		{head + "roads=0,1,3\nend\n", 2, api.ErrForm},
		{onRoad + "paper=1,0,4,9\nend\n", 3, api.ErrForm},
		{onRoad + "paper=1,0,4,9,7,0\nend\n", 3, api.ErrForm},
		{onRoad + "paper=1,0,4,9,\nend\n", 3, api.ErrForm},
		{onRoad + "Paper=1,0,4,9,7\nend\n", 3, api.ErrForm},
		{onPaper + "road=0,1,3\nend\n", 3, api.ErrForm},
		{onRoad + "paper=1,0,4,9,7\nroad=0,1,3\nend\n", 4, api.ErrForm},
		{head, 2, api.ErrForm},
		{onPaper, 3, api.ErrForm},
		{head + "\n", 2, api.ErrForm},
		{head + "\nend\n", 2, api.ErrForm},
		{head + "end", 2, api.ErrForm},
		{head + "end=\n", 2, api.ErrForm},
		{head + "end=0\n", 2, api.ErrForm},
		{head + "End\n", 2, api.ErrForm},
		{head + " end\n", 2, api.ErrForm},
		{head + "end \n", 2, api.ErrForm},
		{head + "end,\n", 2, api.ErrForm},
		{head + "end\r\n", 2, api.ErrForm},
		{head + "end\n\n", 3, api.ErrForm},
		{head + "end\nend\n", 3, api.ErrForm},
		{head + "end\nx", 3, api.ErrForm},
		{onPaper + "paper=1,0,4,9,7", 3, api.ErrForm},
		{head + "road=0,1,03\nend\n", 2, api.ErrForm},
		{head + "road=0,1,-3\nend\n", 2, api.ErrForm},
		{head + "road=0,1,-0\nend\n", 2, api.ErrForm},
		{head + "road=0,1,+3\nend\n", 2, api.ErrForm},
		{head + "road=0,1,00\nend\n", 2, api.ErrForm},
		{head + "road=0,,3\nend\n", 2, api.ErrForm},
		{head + "road=0,1,0x3\nend\n", 2, api.ErrForm},
		{head + "road=0,1,1_0\nend\n", 2, api.ErrForm},
		{head + "road=0,1,٣\nend\n", 2, api.ErrForm},
		{head + "paper=1,0,4,9,10000000\nend\n", 2, api.ErrForm},
		{head + "paper=1,0,4,9,9999999\nend\n", 0, api.ErrValue},
		{head + "road=0,1,10000000\nend\n", 2, api.ErrForm},
		{head + "road=0,1,9999999\nend\n", 0, api.ErrValue},
		{"lands=10000000\nend\n", 1, api.ErrForm},
		{"lands=9999999\nend\n", 0, api.ErrMany},
		{"lands=99999999999999999999\nend\n", 1, api.ErrForm},
		{"lands=0\nend\n", 0, api.ErrFew},
		{head + "road=0,2,3\nend\n", 0, api.ErrUnknown},
		{head + "road=1,1,3\nend\n", 0, api.ErrForm},
		{onRoad + "road=1,0,4\nend\n", 0, api.ErrRepeat},
		{head + strings.Repeat("road=0,1,3\n", 13) + "end\n", 0, api.ErrMany},
		{onRoad + "paper=2,0,4,9,7\nend\n", 0, api.ErrUnknown},
		{onRoad + "paper=1,10,4,9,7\nend\n", 0, api.ErrValue},
		{onRoad + "paper=1,0,4,3,7\nend\n", 0, api.ErrOrder},
	} {
		z, line, e := papers.Parse(c.text)
		if line != c.line || e != c.want || !isEmpty(z) {
			t.Errorf("%.99q: %v %d %d, not %d %d", c.text, z, line, e, c.line, c.want)
		}
	}
}

// spoilt returns a text of which one byte is changed, or two lines have changed places.
func spoilt(r *rand.Rand, text string) string {
	if r.Intn(4) == 0 {
		lines := strings.SplitAfter(text, "\n")
		i, j := r.Intn(len(lines)), r.Intn(len(lines))
		lines[i], lines[j] = lines[j], lines[i]
		return strings.Join(lines, "")
	}
	changed := []byte(text)
	changed[r.Intn(len(changed))] = ",=\n-0123459e"[r.Intn(12)]
	return string(changed)
}

// TestP9_13Folders: a folder is read from its zone, and what is read is written as it was.
func TestP9_13Folders(t *testing.T) {
	r := rand.New(rand.NewSource(13))
	refused, other := 0, 0
	for range 5000 {
		z := randomZone(r, large)
		text, e := papers.Folder(z)
		if e != api.OK {
			t.Fatalf("%v: %d", z, e)
		}
		read, line, e := papers.Parse(text)
		if e != api.OK || line != 0 || !sameZone(read, z) {
			t.Fatalf("%q: %v %d %d, not %v", text, read, line, e, z)
		}
		changed := spoilt(r, text)
		if read, line, e = papers.Parse(changed); e != api.OK {
			refused++
			if !isEmpty(read) || line != 0 && e != api.ErrForm {
				t.Fatalf("%q: %v %d %d", changed, read, line, e)
			}
			continue
		}
		other++
		if again, e := papers.Folder(read); e != api.OK || again != changed {
			t.Fatalf("%q is read, but written %q %d", changed, again, e)
		}
	}
	if refused < 1000 || other < 500 {
		t.Error("too few folders were looked at", refused, other)
	}
}
