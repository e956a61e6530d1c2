package gate_test

import (
	"math/rand"
	"slices"
	"strings"
	"testing"

	"swarf/api"
	"swarf/gate"
)

const (
	journalA = "site 3 2 40 200 1\ngate 90 110 5\npass 0 0 100\npass 0 1 150\npass 0 2 104\ntip 0 0\ntip 1 0\ntip 2 1\nmove 0 1\nclean 0\nend 8\n"
	siteRow  = "site 1 2 3 4 0\n"
	head     = siteRow + "gate 0 5 6\n"
)

// TestP3_4Write: the journals of the example, of the smallest and of a long site, and of one that may not be.
func TestP3_4Write(t *testing.T) {
	long := api.Site{
		Lorries: 6, Piles: 5, Source: rng(10000, 10000), Most: 3,
		Gates:  slices.Repeat([]api.Gate{{Back: rng(10000, 10000), Wander: 10000}}, 3),
		Doings: slices.Repeat([]api.Doing{pass(2, 5, 20000)}, 14),
	}
	for _, c := range []struct {
		s    api.Site
		want string
	}{
		{siteA(), journalA},
		{withSite(func(s *api.Site) { s.Doings = []api.Doing{pass(0, 0, 100), tip(0, 0), clean(0)} }), "site 3 2 40 200 1\ngate 90 110 5\npass 0 0 100\ntip 0 0\nclean 0\nend 3\n"},
		{withSite(func(s *api.Site) { s.Doings[7] = find(1) }), strings.Replace(journalA, "clean 0", "find 1", 1)},
		{withSite(func(s *api.Site) { s.Doings[1].Count = 106 }), strings.Replace(journalA, "150", "106", 1)},
		{api.Site{Lorries: 1, Piles: 1, Source: rng(1, 1), Gates: make([]api.Gate, 1)}, "site 1 1 1 1 0\ngate 0 0 0\nend 0\n"},
		{long, "site 6 5 10000 10000 3\n" + strings.Repeat("gate 10000 10000 10000\n", 3) + strings.Repeat("pass 2 5 20000\n", 14) + "end 14\n"},
	} {
		text, e := gate.Write(c.s)
		if text != c.want || e != api.OK {
			t.Errorf("%v: %q %d", c.s, text, e)
		}
		if s, row, e := gate.Read(text); !sameSite(s, c.s) || row != 0 || e != api.OK {
			t.Errorf("%q: %v %d %d", text, s, row, e)
		}
	}
}

// TestP3_4Read: journals with errors, and the rows in which they are.
func TestP3_4Read(t *testing.T) {
	for _, c := range []struct {
		text string
		row  int
		want api.Errno
	}{
		{strings.Repeat("x", 2001), 0, api.ErrLong},
		{strings.Repeat("x", 2000), 1, api.ErrForm},
		{head + "end 0\n" + strings.Repeat("\n", 2000), 0, api.ErrLong},
		{"", 1, api.ErrForm},
		{"\n", 1, api.ErrForm},
		{"site 1 2 3 4 0", 1, api.ErrForm},
		{"site 1 2 3 4\n", 1, api.ErrForm},
		{"site 1 2 3 4 0 0\n", 1, api.ErrForm},
		{"site\n", 1, api.ErrForm},
		{"Site 1 2 3 4 0\n", 1, api.ErrForm},
		{"sites 1 2 3 4 0\n", 1, api.ErrForm},
		{" site 1 2 3 4 0\n", 1, api.ErrForm},
		{"site 1 2 3 4 0 \n", 1, api.ErrForm},
		{"site  1 2 3 4 0\n", 1, api.ErrForm},
		{"site\t1 2 3 4 0\n", 1, api.ErrForm},
		{"site 1 2 3 4 0\r\n", 1, api.ErrForm},
		{"site 1 2 3 4 x\n", 1, api.ErrForm},
		{"site 1 2 3 4 00\n", 1, api.ErrForm},
		{"site 01 2 3 4 0\n", 1, api.ErrForm},
		{"site 1 2 3 4 -0\n", 1, api.ErrForm},
		{"site 1 2 3 4 -1\n", 1, api.ErrForm},
		{"site 1 2 3 4 +1\n", 1, api.ErrForm},
		{"site 1 2 3 1_0 0\n", 1, api.ErrForm},
		{"site 1 2 3 4.0 0\n", 1, api.ErrForm},
		{"site 1 2 3 ٣ 0\n", 1, api.ErrForm},
		{"site 1 2 3 100000 0\n", 1, api.ErrForm},
		{"site 1 2 3 99999999999999999999 0\n", 1, api.ErrForm},
		{"gate 0 5 6\n" + siteRow + "end 0\n", 1, api.ErrForm},
		{"end 0\n", 1, api.ErrForm},
		{"clean 0\n", 1, api.ErrForm},
		{siteRow, 2, api.ErrForm},
		{siteRow + siteRow + "end 0\n", 2, api.ErrForm},
		{siteRow + "site\nend 0\n", 2, api.ErrForm},
		{siteRow + "gate 0 5\nend 0\n", 2, api.ErrForm},
		{siteRow + "gate 0 5 6 7\nend 0\n", 2, api.ErrForm},
		{siteRow + "gate 0..5 6\nend 0\n", 2, api.ErrForm},
		{siteRow + "end 0\n", 0, api.ErrFew},
		{siteRow + strings.Repeat("gate 0 5 6\n", 4) + "end 0\n", 0, api.ErrMany},
		{siteRow + "clean 0\ngate 0 5 6\nend 1\n", 3, api.ErrForm},
		{siteRow + "clean 0\nend 1\n", 0, api.ErrFew},
		{"site 1 2 99999 4 0\ngate 0 5 6\nend 0\n", 0, api.ErrValue},
		{"site 1 2 4 3 0\ngate 0 5 6\nend 0\n", 0, api.ErrOrder},
		{siteRow + "gate 6 5 6\nend 0\n", 0, api.ErrOrder},
		{head, 3, api.ErrForm},
		{head + "\nend 0\n", 3, api.ErrForm},
		{head + siteRow + "end 0\n", 3, api.ErrForm},
		{head + "lorry 0\nend 1\n", 3, api.ErrForm},
		{head + "pass 0 0\nend 1\n", 3, api.ErrForm},
		{head + "pass 0 0 5 0\nend 1\n", 3, api.ErrForm},
		{head + "tip 0\nend 1\n", 3, api.ErrForm},
		{head + "tip 0 0 0\nend 1\n", 3, api.ErrForm},
		{head + "move 0\nend 1\n", 3, api.ErrForm},
		{head + "move 0 1 0\nend 1\n", 3, api.ErrForm},
		{head + "find\nend 1\n", 3, api.ErrForm},
		{head + "find 0 0\nend 1\n", 3, api.ErrForm},
		{head + "clean\nend 1\n", 3, api.ErrForm},
		{head + "clean 0 0\nend 1\n", 3, api.ErrForm},
		{head + "clean x\nend 1\n", 3, api.ErrForm},
		{head + "clean 0\nclean 00\nend 2\n", 4, api.ErrForm},
		{head + "clean 0\ngate 0 5 6\nend 1\n", 4, api.ErrForm},
		{head + "pass 0 0 5\ngate 0 5 6\nend 1\n", 4, api.ErrForm},
		{head + "clean 0\n", 4, api.ErrForm},
		{head + "clean 0", 3, api.ErrForm},
		{head + "clean 2\nend 1\n", 0, api.ErrUnknown},
		{head + "pass 0 0 20001\nend 1\n", 0, api.ErrValue},
		{head + "pass 0 1 20001\nend 1\n", 0, api.ErrUnknown},
		{head + "move 1 1\nend 1\n", 0, api.ErrForm},
		{head + "tip 0 1\ntip 0 0\nend 2\n", 0, api.ErrRepeat},
		{head + strings.Repeat("clean 0\n", 15) + "end 15\n", 0, api.ErrMany},
		{head + "end 0", 3, api.ErrForm},
		{head + "end\n", 3, api.ErrForm},
		{head + "end 0 0\n", 3, api.ErrForm},
		{head + "end 00\n", 3, api.ErrForm},
		{head + "end 1\n", 3, api.ErrForm},
		{head + "clean 0\nend 0\n", 4, api.ErrForm},
		{head + "clean 0\nend 2\n", 4, api.ErrForm},
		{head + "clean 0\nend 2\nx", 4, api.ErrForm},
		{head + "end 0\nx", 4, api.ErrForm},
		{head + "end 0\n\n", 4, api.ErrForm},
		{head + "end 0\nend 0\n", 4, api.ErrForm},
		{head + "end 0\nclean 0\nend 1\n", 4, api.ErrForm},
	} {
		s, row, e := gate.Read(c.text)
		if row != c.row || e != c.want || !sameSite(s, api.Site{}) {
			t.Errorf("%q: %v %d %d, not %d %d", c.text, s, row, e, c.row, c.want)
		}
	}
}

// TestP3_13Journals: a journal is read from its site, and what is read is written as it was.
func TestP3_13Journals(t *testing.T) {
	r := rand.New(rand.NewSource(13))
	for range 500 {
		s := live(r, size{lorries: between(r, 1, 6), piles: between(r, 1, 5), gates: between(r, 1, 3), doings: between(r, 0, 14), source: 9000, wide: 1000}).site
		text, e := gate.Write(s)
		if e != api.OK || len(text) > api.MaxJournal {
			t.Fatalf("%v: %q %d", s, text, e)
		}
		read, row, e := gate.Read(text)
		if e != api.OK || row != 0 || !sameSite(read, s) {
			t.Fatalf("%q: %v %d %d, not %v", text, read, row, e, s)
		}
		spoil(t, r, text)
	}
}

// spoil changes one byte of a journal: it is refused, or is the journal of what is read.
func spoil(t *testing.T, r *rand.Rand, text string) {
	t.Helper()
	changed := []byte(text)
	changed[r.Intn(len(changed))] = " \n-019ae"[r.Intn(8)]
	s, row, e := gate.Read(string(changed))
	if e != api.OK {
		return
	}
	if again, f := gate.Write(s); row != 0 || f != api.OK || again != string(changed) {
		t.Fatalf("%q is read, but written %q %d", changed, again, f)
	}
}
