package bridge_test

import (
	"math/rand"
	"slices"
	"strings"
	"testing"

	"swarf/api"
	"swarf/bridge"
)

const (
	tapeL = "bridge 10 -5 5\nempty 0 0 0\nload 6200 0 3\nload 9800 0 0\ntest 1000 1010 0 3\nload 2700 0 1\nload 3900 0 0\nend 6\n"
	tapeK = "bridge 1 0 4\nload 100 0 0\nempty 2 0 4\nload 40 0 0\nend 3\n"
	head  = "bridge 1 0 0\n"
)

// TestP1_4Write: the tapes of the examples, of a log without events, and numbers below 0.
func TestP1_4Write(t *testing.T) {
	below := api.Log{Step: 5, Zero: rng(-200, -1), Events: []api.Event{
		{Kind: api.EventEmpty, Shown: -60000, Change: rng(-200, 200)},
		{Kind: api.EventTest, Shown: -5, Load: 60000, Change: rng(-3, -2)},
	}}
	for _, c := range []struct {
		l    api.Log
		want string
	}{
		{logL(), tapeL},
		{logK(), tapeK},
		{api.Log{Step: 100}, "bridge 100 0 0\nend 0\n"},
		{below, "bridge 5 -200 -1\nempty -60000 -200 200\ntest 60000 -5 -3 -2\nend 2\n"},
		{withLog(func(l *api.Log) { l.Events, l.Zero = l.Events[:1], rng(5, 5) }), "bridge 10 5 5\nempty 0 0 0\nend 1\n"},
	} {
		if text, e := bridge.Write(c.l); text != c.want || e != api.OK {
			t.Errorf("%v: %q %d", c.l, text, e)
		}
	}
	conflict := withLog(func(l *api.Log) { l.Events[3].Shown = 1020 })
	if text, e := bridge.Write(conflict); e != api.OK || text != strings.Replace(tapeL, "1010", "1020", 1) {
		t.Errorf("a log that may not be: %q %d", text, e)
	}
}

// TestP1_4Read: tapes that are read.
func TestP1_4Read(t *testing.T) {
	for _, text := range []string{tapeL, tapeK, head + "end 0\n", "bridge 100 -200 200\nempty -60000 -200 200\ntest 60000 100 -3 -2\nend 2\n"} {
		l, row, e := bridge.Read(text)
		if again, f := bridge.Write(l); row != 0 || e != api.OK || f != api.OK || again != text {
			t.Errorf("%q: %v %d %d", text, l, row, e)
		}
	}
	l, row, e := bridge.Read(tapeL)
	want := logL()
	if row != 0 || e != api.OK || l.Step != want.Step || l.Zero != want.Zero || !slices.Equal(l.Events, want.Events) {
		t.Error(l, row, e)
	}
}

// TestP1_4ReadErrors: tapes with errors, and the rows in which they are.
func TestP1_4ReadErrors(t *testing.T) {
	for _, c := range []struct {
		text string
		row  int
		want api.Errno
	}{
		{strings.Repeat("x", 2001), 0, api.ErrLong},
		{strings.Repeat("x", 2000), 1, api.ErrForm},
		{head + "end 0\n" + strings.Repeat("\n", 2000), 0, api.ErrLong},
		{"", 1, api.ErrForm},
		{"\n", 1, api.ErrForm},
		{"end 0\n", 1, api.ErrForm},
		{"empty 0 0 0\nbridge 1 0 0\nend 1\n", 1, api.ErrForm},
		{"bridge 1 0 0", 1, api.ErrForm},
		{"bridge 1 0\nend 0\n", 1, api.ErrForm},
		{"bridge 1 0 0 0\nend 0\n", 1, api.ErrForm},
		{"bridge 1 0 0 \nend 0\n", 1, api.ErrForm},
		{" bridge 1 0 0\nend 0\n", 1, api.ErrForm},
		{"bridge  1 0 0\nend 0\n", 1, api.ErrForm},
		{"bridge\t1 0 0\nend 0\n", 1, api.ErrForm},
		{"bridge 1 0 0\r\nend 0\n", 1, api.ErrForm},
		{"Bridge 1 0 0\nend 0\n", 1, api.ErrForm},
		{"bridge 01 0 0\nend 0\n", 1, api.ErrForm},
		{"bridge +1 0 0\nend 0\n", 1, api.ErrForm},
		{"bridge 1 -0 0\nend 0\n", 1, api.ErrForm},
		{"bridge 1 -01 0\nend 0\n", 1, api.ErrForm},
		{"bridge 1 - 0\nend 0\n", 1, api.ErrForm},
		{"bridge 1 --1 0\nend 0\n", 1, api.ErrForm},
		{"bridge 1 0x1 0\nend 0\n", 1, api.ErrForm},
		{"bridge 1 1_0 0\nend 0\n", 1, api.ErrForm},
		{"bridge 1 ٣ 0\nend 0\n", 1, api.ErrForm},
		{"bridge 1 0 100000\nend 0\n", 1, api.ErrForm},
		{"bridge 1 -100000 0\nend 0\n", 1, api.ErrForm},
		{"bridge 1 0 99999999999999999999\nend 0\n", 1, api.ErrForm},
		{"bridge 1 0 99999\nend 0\n", 0, api.ErrValue},
		{"bridge 1 -99999 0\nend 0\n", 0, api.ErrValue},
		{"bridge 0 0 0\nend 0\n", 0, api.ErrValue},
		{"bridge 1 1 0\nend 0\n", 0, api.ErrOrder},
		{head, 2, api.ErrForm},
		{head + "\nend 0\n", 2, api.ErrForm},
		{head + head + "end 0\n", 2, api.ErrForm},
		{head + "empty 0 0\nend 1\n", 2, api.ErrForm},
		{head + "test 0 0 0\nend 1\n", 2, api.ErrForm},
		{head + "test 0 0 0 0 0\nend 1\n", 2, api.ErrForm},
		{head + "load 0 0 0 0\nend 1\n", 2, api.ErrForm},
		{head + "lorry 0 0 0\nend 1\n", 2, api.ErrForm},
		{head + "load 0 0 0", 2, api.ErrForm},
		{head + "load 0 0 0\n", 3, api.ErrForm},
		{head + "load 0 0 0\nempty 0 0 0\nload x 0 0\nempty 0 0\nend 9\n", 4, api.ErrForm},
		{head + "load 0 0 0\nend 0\n", 3, api.ErrForm},
		{head + "end 1\nend 1\n", 2, api.ErrForm},
		{head + "end -0\n", 2, api.ErrForm},
		{head + "end\n", 2, api.ErrForm},
		{head + "end 0 0\n", 2, api.ErrForm},
		{head + "end 0", 2, api.ErrForm},
		{head + "end 0\n\n", 3, api.ErrForm},
		{head + "end 0\nx", 3, api.ErrForm},
		{head + "end 0\nend 0\n", 3, api.ErrForm},
		{head + "end 0\n" + head + "end 0\n", 3, api.ErrForm},
		{head + strings.Repeat("load 0 0 0\n", 15) + "end 15\n", 0, api.ErrMany},
		{head + "test -1 0 0 0\nend 1\n", 0, api.ErrValue},
		{"bridge 2 0 0\nload 3 0 0\nend 1\n", 0, api.ErrForm},
		{head + "load 0 1 0\nend 1\n", 0, api.ErrOrder},
	} {
		l, row, e := bridge.Read(c.text)
		if row != c.row || e != c.want || l.Step != 0 || l.Zero != rng(0, 0) || l.Events != nil {
			t.Errorf("%q: %v %d %d, not %d %d", c.text, l, row, e, c.row, c.want)
		}
	}
}

// TestP1_13Tapes: a tape is read from its log, and what is read is written as it was.
func TestP1_13Tapes(t *testing.T) {
	r := rand.New(rand.NewSource(13))
	for range 500 {
		l := live(r, between(r, 0, api.MaxEvents), between(r, 1, api.MaxStep), 20, 3000).log
		text, e := bridge.Write(l)
		if e != api.OK || len(text) > api.MaxTape {
			t.Fatalf("%v: %q %d", l, text, e)
		}
		read, row, e := bridge.Read(text)
		if e != api.OK || row != 0 || read.Step != l.Step || read.Zero != l.Zero || !slices.Equal(read.Events, l.Events) {
			t.Fatalf("%q: %v %d %d, not %v", text, read, row, e, l)
		}
		spoil(t, r, text)
	}
}

// spoil changes one byte of a tape: it is refused, or is the tape of what is read.
func spoil(t *testing.T, r *rand.Rand, text string) {
	t.Helper()
	changed := []byte(text)
	changed[r.Intn(len(changed))] = " \n-019a"[r.Intn(7)]
	l, row, e := bridge.Read(string(changed))
	if e != api.OK {
		return
	}
	if again, f := bridge.Write(l); row != 0 || f != api.OK || again != string(changed) {
		t.Fatalf("%q is read, but written %q %d", changed, again, f)
	}
}
