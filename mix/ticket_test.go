package mix_test

import (
	"math/rand"
	"slices"
	"strings"
	"testing"

	"swarf/api"
	"swarf/mix"
)

const (
	ticketL = "stuffs 30..50 10..40\nsplit 0 +5 -3\nweighed 0 70..70\nweighed 1 40..42\n.\n"
	head    = "stuffs 1..5\n"
	split   = "split 0 +2\n"
)

// TestP2_4Ticket: the tickets of the example, of the smallest and of the longest load, and of one that is not possible.
func TestP2_4Ticket(t *testing.T) {
	longest := api.Load{Stuffs: slices.Repeat([]api.Range{rng(100000, 100000)}, 4)}
	want := "stuffs" + strings.Repeat(" 100000..100000", 4) + "\n"
	for s := range 4 {
		longest.Splits = append(longest.Splits, api.Split{Of: 2 * s, Pulls: []bool{true, false, true, false}, Wrong: slices.Repeat([]int{100000}, 4)})
		want += "split " + string(rune('0'+2*s)) + strings.Repeat(" +100000 -100000", 2) + "\n"
	}
	for fraction := 8; fraction >= 0; fraction-- {
		longest.Weighed = append(longest.Weighed, api.Weighed{Fraction: fraction, Kilos: rng(100000, 100000)})
		want += "weighed " + string(rune('0'+fraction)) + " 100000..100000\n"
	}
	for _, c := range []struct {
		l    api.Load
		want string
	}{
		{loadL(), ticketL},
		{api.Load{Stuffs: []api.Range{{}}}, "stuffs 0..0\n.\n"},
		{longest, want + ".\n"},
		{withLoad(func(l *api.Load) { l.Weighed[1].Kilos = rng(55, 60) }), strings.Replace(ticketL, "40..42", "55..60", 1)},
		{withLoad(func(l *api.Load) { l.Splits[0].Pulls = []bool{false, true} }), strings.Replace(ticketL, "+5 -3", "-5 +3", 1)},
	} {
		text, e := mix.Ticket(c.l)
		if text != c.want || e != api.OK {
			t.Errorf("%v: %q %d", c.l, text, e)
		}
		if l, line, e := mix.Parse(text); !sameLoad(l, c.l) || line != 0 || e != api.OK {
			t.Errorf("%q: %v %d %d", text, l, line, e)
		}
	}
}

// TestP2_4Parse: tickets with errors, and the lines in which they are.
func TestP2_4Parse(t *testing.T) {
	for _, c := range []struct {
		text string
		line int
		want api.Errno
	}{
		{strings.Repeat("x", 2001), 0, api.ErrLong},
		{strings.Repeat("x", 2000), 1, api.ErrForm},
		{head + ".\n" + strings.Repeat("\n", 2000), 0, api.ErrLong},
		{"", 1, api.ErrForm},
		{"\n", 1, api.ErrForm},
		{".\n", 1, api.ErrForm},
		{"stuffs 1..5", 1, api.ErrForm},
		{"stuffs\n.\n", 1, api.ErrForm},
		{"stuffs \n.\n", 1, api.ErrForm},
		{"stuffs 1..5 \n.\n", 1, api.ErrForm},
		{" stuffs 1..5\n.\n", 1, api.ErrForm},
		{"stuffs  1..5\n.\n", 1, api.ErrForm},
		{"stuffs\t1..5\n.\n", 1, api.ErrForm},
		{"stuffs 1..5\r\n.\n", 1, api.ErrForm},
		{"Stuffs 1..5\n.\n", 1, api.ErrForm},
		{"stuff 1..5\n.\n", 1, api.ErrForm},
		{"weighed 0 1..5\nstuffs 1..5\n.\n", 1, api.ErrForm},
		{"stuffs 5\n.\n", 1, api.ErrForm},
		{"stuffs 1.5\n.\n", 1, api.ErrForm},
		{"stuffs 1...5\n.\n", 1, api.ErrForm},
		{"stuffs 1..5..6\n.\n", 1, api.ErrForm},
		{"stuffs 1..\n.\n", 1, api.ErrForm},
		{"stuffs ..5\n.\n", 1, api.ErrForm},
		{"stuffs ..\n.\n", 1, api.ErrForm},
		{"stuffs 1.. 5\n.\n", 1, api.ErrForm},
		{"stuffs 01..5\n.\n", 1, api.ErrForm},
		{"stuffs 1..05\n.\n", 1, api.ErrForm},
		{"stuffs 00..5\n.\n", 1, api.ErrForm},
		{"stuffs +1..5\n.\n", 1, api.ErrForm},
		{"stuffs -1..5\n.\n", 1, api.ErrForm},
		{"stuffs -0..5\n.\n", 1, api.ErrForm},
		{"stuffs 1_0..50\n.\n", 1, api.ErrForm},
		{"stuffs 0x1..5\n.\n", 1, api.ErrForm},
		{"stuffs 1..٣\n.\n", 1, api.ErrForm},
		{"stuffs 1..123456789\n.\n", 1, api.ErrForm},
		{"stuffs 1..99999999999999999999\n.\n", 1, api.ErrForm},
		{"stuffs 1..5 2..x\n.\n", 1, api.ErrForm},
		{"stuffs 1..12345678\n.\n", 0, api.ErrValue},
		{"stuffs 1..99999999\n.\n", 0, api.ErrValue},
		{"stuffs 5..1\n.\n", 0, api.ErrOrder},
		{"stuffs" + strings.Repeat(" 1..5", 5) + "\n.\n", 0, api.ErrMany},
		{head, 2, api.ErrForm},
		{head + "\n.\n", 2, api.ErrForm},
		{head + head + ".\n", 2, api.ErrForm},
		{head + ".", 2, api.ErrForm},
		{head + ". \n", 2, api.ErrForm},
		{head + " .\n", 2, api.ErrForm},
		{head + "..\n", 2, api.ErrForm},
		{head + "lorry 0 1..5\n.\n", 2, api.ErrForm},
		{head + ".\nx", 3, api.ErrForm},
		{head + ".\n\n", 3, api.ErrForm},
		{head + ".\n.\n", 3, api.ErrForm},
		{head + ".\n" + split + ".\n", 3, api.ErrForm},
		{head + "split\n.\n", 2, api.ErrForm},
		{head + "split 0\n.\n", 2, api.ErrForm},
		{head + "split +2\n.\n", 2, api.ErrForm},
		{head + "split 00 +2\n.\n", 2, api.ErrForm},
		{head + "split -1 +2\n.\n", 2, api.ErrForm},
		{head + "split 0 2\n.\n", 2, api.ErrForm},
		{head + "split 0 +\n.\n", 2, api.ErrForm},
		{head + "split 0 \n.\n", 2, api.ErrForm},
		{head + "split 0 +2 \n.\n", 2, api.ErrForm},
		{head + "split 0 + 2\n.\n", 2, api.ErrForm},
		{head + "split 0 ++2\n.\n", 2, api.ErrForm},
		{head + "split 0 +-2\n.\n", 2, api.ErrForm},
		{head + "split 0 --2\n.\n", 2, api.ErrForm},
		{head + "split 0 *2\n.\n", 2, api.ErrForm},
		{head + "split 0 -02\n.\n", 2, api.ErrForm},
		{head + "split 0 +2 2\n.\n", 2, api.ErrForm},
		{head + "split 0 2 +2\n.\n", 2, api.ErrForm},
		{head + "split x +2\n.\n", 2, api.ErrForm},
		{head + "split 0 +123456789\n.\n", 2, api.ErrForm},
		{head + "split 0 +12345678\n.\n", 0, api.ErrValue},
		{head + "split 0 +2 -3\n.\n", 0, api.ErrForm},
		{head + "split 1 +2\n.\n", 0, api.ErrUnknown},
		{head + "split 12345678 +2\n.\n", 0, api.ErrUnknown},
		{head + split + split + ".\n", 0, api.ErrRepeat},
		{head + strings.Repeat(split, 5) + ".\n", 0, api.ErrMany},
		{head + split, 3, api.ErrForm},
		{head + "split 0 +2", 2, api.ErrForm},
		{head + split + "split 1 x\nsplit\n", 3, api.ErrForm},
		{head + "weighed 0 1..5\n" + split + ".\n", 3, api.ErrForm},
		{head + split + "weighed 0 1..5\nsplit 1 +2\n.\n", 4, api.ErrForm},
		{head + "weighed\n.\n", 2, api.ErrForm},
		{head + "weighed 0\n.\n", 2, api.ErrForm},
		{head + "weighed 1..5\n.\n", 2, api.ErrForm},
		{head + "weighed 0 5\n.\n", 2, api.ErrForm},
		{head + "weighed x 1..5\n.\n", 2, api.ErrForm},
		{head + "weighed 01 1..5\n.\n", 2, api.ErrForm},
		{head + "weighed 0 1..5 6..7\n.\n", 2, api.ErrForm},
		{head + "weighed 0 1..5 \n.\n", 2, api.ErrForm},
		{head + "weighed 0 1..5\nweighed 0 1..5\n.\n", 0, api.ErrRepeat},
		{head + "weighed 1 1..5\n.\n", 0, api.ErrUnknown},
		{head + "weighed 0 5..1\n.\n", 0, api.ErrOrder},
		{head + "weighed 0 1..100001\n.\n", 0, api.ErrValue},
	} {
		l, line, e := mix.Parse(c.text)
		if line != c.line || e != c.want || l.Stuffs != nil || l.Splits != nil || l.Weighed != nil {
			t.Errorf("%q: %v %d %d, not %d %d", c.text, l, line, e, c.line, c.want)
		}
	}
}

// TestP2_11Tickets: a ticket is read from its load, and what is read is written as it was.
func TestP2_11Tickets(t *testing.T) {
	r := rand.New(rand.NewSource(11))
	for range 500 {
		l := live(r, between(r, 1, 4), between(r, 0, 4), 90000, 3000).load
		text, e := mix.Ticket(l)
		if e != api.OK || len(text) > api.MaxTicket {
			t.Fatalf("%v: %q %d", l, text, e)
		}
		read, line, e := mix.Parse(text)
		if e != api.OK || line != 0 || !sameLoad(read, l) {
			t.Fatalf("%q: %v %d %d, not %v", text, read, line, e, l)
		}
		spoil(t, r, text)
	}
}

// spoil changes one byte of a ticket: it is refused, or is the ticket of what is read.
func spoil(t *testing.T, r *rand.Rand, text string) {
	t.Helper()
	changed := []byte(text)
	changed[r.Intn(len(changed))] = " \n.+-019a"[r.Intn(9)]
	l, line, e := mix.Parse(string(changed))
	if e != api.OK {
		return
	}
	if again, f := mix.Ticket(l); line != 0 || f != api.OK || again != string(changed) {
		t.Fatalf("%q is read, but written %q %d", changed, again, f)
	}
}
