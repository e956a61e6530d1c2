package strip_test

import (
	"math/rand"
	"slices"
	"strings"
	"testing"

	"swarf/api"
	"swarf/strip"
)

const (
	cardC    = "!A10 -\n!B20 0\n!A15 1\n.C30 -\n!C5 0+3\nswap 2\nout 0\nout 1\nin 2\nin 4\nwrong 1\nneeds 2 5\ndone\n"
	partLine = "!A5 -\n"
	swapLine = "swap 1\n"
	end      = "wrong 0\nneeds\ndone\n"
)

// longest is a car with the longest card that there is.
func longest() api.Car {
	c := api.Car{Swap: 1000, Looks: slices.Repeat([]api.Look{out(8)}, 12), Wrong: 12, Needs: []int{0, 1, 2, 3, 4, 5, 6, 8}}
	var all []int
	for i := range 9 {
		c.Parts = append(c.Parts, bad(4, 1000, slices.Clone(all)...))
		all = append(all, i)
	}
	return c
}

// TestP4_5Card: the cards of the example, of the smallest and of the longest car, and of one that is not possible.
func TestP4_5Card(t *testing.T) {
	long := "!D1000 -\n!D1000 0\n!D1000 0+1\n!D1000 0+1+2\n!D1000 0+1+2+3\n!D1000 0+1+2+3+4\n!D1000 0+1+2+3+4+5\n!D1000 0+1+2+3+4+5+6\n!D1000 0+1+2+3+4+5+6+7\n" +
		"swap 1000\n" + strings.Repeat("out 8\n", 12) + "wrong 12\nneeds 0 1 2 3 4 5 6 8\ndone\n"
	for _, c := range []struct {
		c    api.Car
		want string
	}{
		{carC(), cardC},
		{looked([]api.Part{part(1, 0)}), ".A0 -\nswap 0\nwrong 0\nneeds\ndone\n"},
		{looked([]api.Part{part(2, 7), bad(3, 8, 0)}, in(0), out(1)), ".B7 -\n!C8 0\nswap 0\nin 0\nout 1\nwrong 0\nneeds\ndone\n"},
		{longest(), long},
	} {
		text, e := strip.Card(c.c)
		if text != c.want || e != api.OK {
			t.Errorf("%v: %q %d", c.c, text, e)
		}
		if read, line, e := strip.Parse(text); !sameCar(read, c.c) || line != 0 || e != api.OK {
			t.Errorf("%q: %v %d %d", text, read, line, e)
		}
	}
}

// TestP4_5ParseLines: cards with a line that is not as said, and its number.
func TestP4_5ParseLines(t *testing.T) {
	for _, c := range []struct {
		text string
		line int
	}{
		{"", 1},
		{"\n", 1},
		{"x", 1},
		{" ", 1},
		{"!A5 -", 1},
		{"A5 -\n", 1},
		{"?A5 -\n", 1},
		{"! A5 -\n", 1},
		{"!a5 -\n", 1},
		{"!@5 -\n", 1},
		{"![5 -\n", 1},
		{"!55 -\n", 1},
		{"!Ä5 -\n", 1},
		{"!5 -\n", 1},
		{"!A -\n", 1},
		{"! -\n", 1},
		{"!\n", 1},
		{". -\n", 1},
		{"!AB5 -\n", 1},
		{"!A05 -\n", 1},
		{"!A00 -\n", 1},
		{"!A-5 -\n", 1},
		{"!A+5 -\n", 1},
		{"!A5x -\n", 1},
		{"!A1_0 -\n", 1},
		{"!A٣ -\n", 1},
		{"!A123456 -\n", 1},
		{"!A99999999999999999999 -\n", 1},
		{"!!A5 -\n", 1},
		{"!A5\n", 1},
		{"!A5 \n", 1},
		{"!A5-\n", 1},
		{"!A5  -\n", 1},
		{" !A5 -\n", 1},
		{"!A5 - \n", 1},
		{"!A5 - 0\n", 1},
		{"!A5 0 1\n", 1},
		{"!A5 --\n", 1},
		{"!A5 -0\n", 1},
		{"!A5 -+0\n", 1},
		{"!A5 +\n", 1},
		{"!A5 +0\n", 1},
		{"!A5 0+\n", 1},
		{"!A5 0++1\n", 1},
		{"!A5 0+01\n", 1},
		{"!A5 0,1\n", 1},
		{"!A5 100000\n", 1},
		{"!A5\t-\n", 1},
		{"!A5 -\r\n", 1},
		{"!A5 \xff\n", 1},
		{"\ufffd\n", 1},
		{partLine, 2},
		{partLine + "\n" + swapLine + end, 2},
		{partLine + end, 2},
		{partLine + "out 0\n" + swapLine + end, 2},
		{partLine + "in 0\n" + swapLine + end, 2},
		{partLine + "needs\n", 2},
		{partLine + "done\n", 2},
		{partLine + "swap\n", 2},
		{partLine + "swap 1 2\n", 2},
		{partLine + "swap 01\n", 2},
		{partLine + "swap -1\n", 2},
		{partLine + "swap 100000\n", 2},
		{partLine + "swap x\n", 2},
		{partLine + "swap  1\n", 2},
		{partLine + "swap 1 \n", 2},
		{partLine + "Swap 1\n", 2},
		{partLine + "swaps 1\n", 2},
		{partLine + "swap 1", 2},
		{partLine + "swap 1 ", 2},
		{partLine + swapLine, 3},
		{partLine + swapLine + swapLine + end, 3},
		{partLine + swapLine + partLine + end, 3},
		{partLine + swapLine + "\n" + end, 3},
		{partLine + swapLine + "out\n" + end, 3},
		{partLine + swapLine + "out 0 0\n" + end, 3},
		{partLine + swapLine + "in\n" + end, 3},
		{partLine + swapLine + "in 0 0\n" + end, 3},
		{partLine + swapLine + "In 0\n" + end, 3},
		{partLine + swapLine + "out -\n" + end, 3},
		{partLine + swapLine + "needs\ndone\n", 3},
		{partLine + swapLine + "done\n", 3},
		{partLine + swapLine + "wrong\n", 3},
		{partLine + swapLine + "wrong 0 0\n", 3},
		{partLine + swapLine + "wrong 0", 3},
		{partLine + swapLine + "wrong 0\n", 4},
		{partLine + swapLine + "wrong 0\nwrong 0\n", 4},
		{partLine + swapLine + "wrong 0\nout 0\n", 4},
		{partLine + swapLine + "wrong 0\nin 0\nneeds\ndone\n", 4},
		{partLine + swapLine + "wrong 0\nswap 1\nneeds\ndone\n", 4},
		{partLine + swapLine + "wrong 0\n" + partLine + "needs\ndone\n", 4},
		{partLine + swapLine + "wrong 0\ndone\n", 4},
		{partLine + swapLine + "wrong 0\nneeds \ndone\n", 4},
		{partLine + swapLine + "wrong 0\nneeds -\ndone\n", 4},
		{partLine + swapLine + "wrong 0\nneeds 1+2\ndone\n", 4},
		{partLine + swapLine + "wrong 0\nneeds 1  2\ndone\n", 4},
		{partLine + swapLine + "wrong 0\nneeds 00\ndone\n", 4},
		{partLine + swapLine + "wrong 0\nneeds 100000\ndone\n", 4},
		{partLine + swapLine + "wrong 0\nneed\ndone\n", 4},
		{partLine + swapLine + "wrong 0\nneeds\n", 5},
		{partLine + swapLine + "wrong 0\nneeds\nneeds\ndone\n", 5},
		{partLine + swapLine + "wrong 0\nneeds\nin 0\ndone\n", 5},
		{partLine + swapLine + "wrong 0\nneeds\n" + partLine + "done\n", 5},
		{partLine + swapLine + "wrong 0\nneeds\ndone", 5},
		{partLine + swapLine + "wrong 0\nneeds\ndone ", 5},
		{partLine + swapLine + "wrong 0\nneeds\ndone \n", 5},
		{partLine + swapLine + "wrong 0\nneeds\ndone 1\n", 5},
		{partLine + swapLine + end + "done\n", 6},
		{partLine + swapLine + end + "\n", 6},
		{partLine + swapLine + end + "x", 6},
		{partLine + swapLine + end + " ", 6},
		{partLine + swapLine + end + partLine, 6},
		{"!A5 9\n" + swapLine + end + "x", 6},
		{strings.Repeat("x", 1200), 1},
		{strings.Repeat(partLine, 200), 201},
	} {
		if read, line, e := strip.Parse(c.text); line != c.line || e != api.ErrForm || !sameCar(read, api.Car{}) {
			t.Errorf("%q: %v %d %d, not %d", c.text, read, line, e, c.line)
		}
	}
}

// TestP4_5Parse: cards of which all lines are as said, with the error of the car, and cards that are too long.
func TestP4_5Parse(t *testing.T) {
	for _, c := range []struct {
		text string
		want api.Errno
	}{
		{partLine + swapLine + end, api.OK},
		{partLine + swapLine + "in 0\nout 0\nin 0\nwrong 12\nneeds 0 8\ndone\n", api.OK},
		{swapLine + end, api.ErrFew},
		{strings.Repeat(partLine, 9) + swapLine + end, api.OK},
		{strings.Repeat(partLine, 10) + swapLine + end, api.ErrMany},
		{"!A5 0\n" + swapLine + end, api.ErrUnknown},
		{"!A5 99999\n" + swapLine + end, api.ErrUnknown},
		{partLine + "!A5 0+0\n" + swapLine + end, api.ErrOrder},
		{partLine + partLine + "!A5 1+0\n" + swapLine + end, api.ErrOrder},
		{"!D5 -\n" + swapLine + end, api.OK},
		{"!E5 -\n" + swapLine + end, api.ErrValue},
		{"!Z5 -\n" + swapLine + end, api.ErrValue},
		{".A1000 -\n" + swapLine + end, api.OK},
		{".A1001 -\n" + swapLine + end, api.ErrValue},
		{".A99999 -\n" + swapLine + end, api.ErrValue},
		{partLine + "swap 1000\n" + end, api.OK},
		{partLine + "swap 99999\n" + end, api.ErrValue},
		{partLine + swapLine + "out 1\n" + end, api.ErrUnknown},
		{partLine + swapLine + "in 99999\n" + end, api.ErrUnknown},
		{partLine + swapLine + strings.Repeat("out 0\n", 12) + end, api.OK},
		{partLine + swapLine + strings.Repeat("out 0\n", 13) + end, api.ErrMany},
		{partLine + swapLine + "out 0\nin 0\n" + end, api.OK},
		{partLine + swapLine + "wrong 13\nneeds\ndone\n", api.ErrValue},
		{partLine + swapLine + "wrong 0\nneeds 9\ndone\n", api.ErrValue},
		{partLine + swapLine + "wrong 0\nneeds 1 1\ndone\n", api.ErrOrder},
		{partLine + swapLine + "wrong 0\nneeds 0 1 2 3 4 5 6 7 8\ndone\n", api.ErrMany},
		{strings.Repeat("x", 1201), api.ErrLong},
		{partLine + swapLine + end + strings.Repeat("\n", 1200), api.ErrLong},
	} {
		read, line, e := strip.Parse(c.text)
		if line != 0 || e != c.want || e != api.OK && !sameCar(read, api.Car{}) {
			t.Errorf("%q: %v %d %d, not %d", c.text, read, line, e, c.want)
		}
		if text, f := strip.Card(read); e == api.OK && (text != c.text || f != api.OK) {
			t.Errorf("%q is read, but written %q %d", c.text, text, f)
		}
	}
}

// TestP4_13Cards: a card is read from its car, and what is read is written as it was.
func TestP4_13Cards(t *testing.T) {
	r := rand.New(rand.NewSource(13))
	refused, other := 0, 0
	for range 3000 {
		c := randomCar(r, api.MaxParts)
		text, e := strip.Card(c)
		if e != api.OK || len(text) > api.MaxCard {
			t.Fatalf("%v: %q %d", c, text, e)
		}
		read, line, e := strip.Parse(text)
		if e != api.OK || line != 0 || !sameCar(read, c) {
			t.Fatalf("%q: %v %d %d, not %v", text, read, line, e, c)
		}
		changed := []byte(text)
		changed[r.Intn(len(changed))] = " \n-+!.0159AD"[r.Intn(12)]
		read, line, e = strip.Parse(string(changed))
		if e != api.OK {
			refused++
			continue
		}
		if again, f := strip.Card(read); line != 0 || f != api.OK || again != string(changed) {
			t.Fatalf("%q is read, but written %q %d", changed, again, f)
		}
		if string(changed) != text {
			other++
		}
	}
	if refused < 300 || other < 100 {
		t.Error("too few cards were changed", refused, other)
	}
}
