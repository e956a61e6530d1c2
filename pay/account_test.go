package pay_test

import (
	"math/rand"
	"slices"
	"strings"
	"testing"

	"swarf/api"
	"swarf/pay"
)

// textT is the account of T.
const textT = `till;4;1000;3
same;0;1
maybe;1;2
cash;0;0;400
cash;1;2;500
bank;1;3;900
cash;2;1;300
cash;4;0;500
end
`

// fullest is the till with the longest account that there is.
func fullest() api.Till {
	t := api.Till{Names: 8, Limit: 100000000, Window: 30}
	for b := 1; len(t.Links) < 10; b++ {
		for a := range min(b, 10-len(t.Links)) {
			t.Links = append(t.Links, maybe(a, b))
		}
	}
	t.Dues = slices.Repeat([]api.Due{cash(4000, 7, 100000000)}, 20)
	return t
}

// fullestText is the account of that till.
func fullestText() string {
	links := "maybe;0;1\nmaybe;0;2\nmaybe;1;2\nmaybe;0;3\nmaybe;1;3\nmaybe;2;3\nmaybe;0;4\nmaybe;1;4\nmaybe;2;4\nmaybe;3;4\n"
	return "till;8;100000000;30\n" + links + strings.Repeat("cash;4000;7;100000000\n", 20) + "end\n"
}

// TestP8_6Account: tills and their accounts, which are read again.
func TestP8_6Account(t *testing.T) {
	for _, c := range []struct {
		name string
		t    api.Till
		text string
	}{
		{"T", tillT(1000), textT},
		{"the least one", api.Till{Names: 1, Window: 1}, "till;1;0;1\nend\n"},
		{"links without dues", api.Till{Names: 3, Limit: 5, Window: 7, Links: []api.Link{maybe(2, 0), sure(1, 0)}}, "till;3;5;7\nmaybe;2;0\nsame;1;0\nend\n"},
		{"dues without links", api.Till{Names: 3, Limit: 5, Window: 7, Dues: []api.Due{bank(6, 2, 8), cash(9, 1, 0)}}, "till;3;5;7\nbank;6;2;8\ncash;9;1;0\nend\n"},
		{"against the law", api.Till{Names: 1, Window: 1, Dues: []api.Due{cash(0, 0, 9)}}, "till;1;0;1\ncash;0;0;9\nend\n"},
		{"the longest one", fullest(), fullestText()},
	} {
		if text, e := pay.Account(c.t); text != c.text || e != api.OK {
			t.Errorf("%s: %q %d, not %q", c.name, text, e, c.text)
		}
		if x, line, e := pay.Parse(c.text); !sameTill(x, c.t) || line != 0 || e != api.OK {
			t.Errorf("%s: read %v %d %d", c.name, x, line, e)
		}
	}
}

// TestP8_6Parse: accounts with errors, and the lines in which they are.
func TestP8_6Parse(t *testing.T) {
	const till, link, due = "till;2;9;3\n", "till;2;9;3\nsame;0;1\n", "till;2;9;3\ncash;4;1;5\n"
	for _, c := range []struct {
		text string
		line int
		want api.Errno
	}{
		{strings.Repeat("x", 2001), 0, api.ErrLong},
		{strings.Repeat("x", 2000), 1, api.ErrForm},
		{till + strings.Repeat("bank;0;0;0\n", 180) + "end", 182, api.ErrForm},
		{till + strings.Repeat("bank;0;0;0\n", 180) + "end\nbank;", 183, api.ErrForm},
		{till + strings.Repeat("bank;0;0;0\n", 180) + "end\nbank;0", 0, api.ErrLong},
		{till + strings.Repeat("bank;0;0;0\n", 180) + "end\n", 0, api.ErrMany},
		{"", 1, api.ErrForm},
		{"\n", 1, api.ErrForm},
		{"end\n", 1, api.ErrForm},
		{"same;0;1\nend\n", 1, api.ErrForm},
		{"cash;0;0;0\nend\n", 1, api.ErrForm},
		{"\n" + till + "end\n", 1, api.ErrForm},
		{"till\nend\n", 1, api.ErrForm},
		{"till;2;9\nend\n", 1, api.ErrForm},
		{"till;2;9;3;4\nend\n", 1, api.ErrForm},
		{"till 2 9 3\nend\n", 1, api.ErrForm},
		{"till;2;9;3;\nend\n", 1, api.ErrForm},
		{";till;2;9;3\nend\n", 1, api.ErrForm},
		{"Till;2;9;3\nend\n", 1, api.ErrForm},
		{"tills;2;9;3\nend\n", 1, api.ErrForm},
		{till + till + "end\n", 2, api.ErrForm},
		{link + till + "end\n", 3, api.ErrForm},
		{due + till + "end\n", 3, api.ErrForm},
		{till + "same;0\nend\n", 2, api.ErrForm},
		{till + "same;0;1;0\nend\n", 2, api.ErrForm},
		{till + "maybe;0\nend\n", 2, api.ErrForm},
		{till + "maybe;0;1;0\nend\n", 2, api.ErrForm},
		{till + "maybe\nend\n", 2, api.ErrForm},
		{till + "Same;0;1\nend\n", 2, api.ErrForm},
		{till + "sure;0;1\nend\n", 2, api.ErrForm},
		{link + "cash;4;1\nend\n", 3, api.ErrForm},
		{link + "cash;4;1;5;0\nend\n", 3, api.ErrForm},
		{link + "bank;4;1\nend\n", 3, api.ErrForm},
		{link + "bank;4;1;5;0\nend\n", 3, api.ErrForm},
		{due + "same;0;1\nend\n", 3, api.ErrForm},
		{due + "maybe;0;1\nend\n", 3, api.ErrForm},
		{link + "bank;0;0;0\nmaybe;0;1\nend\n", 4, api.ErrForm},
		{till, 2, api.ErrForm},
		{due, 3, api.ErrForm},
		{till + "\n", 2, api.ErrForm},
		{till + "\nend\n", 2, api.ErrForm},
		{till + "end", 2, api.ErrForm},
		{till + "end;\n", 2, api.ErrForm},
		{till + "end;0\n", 2, api.ErrForm},
		{till + "End\n", 2, api.ErrForm},
		{till + " end\n", 2, api.ErrForm},
		{till + "end \n", 2, api.ErrForm},
		{till + "end\r\n", 2, api.ErrForm},
		{till + "end\n\n", 3, api.ErrForm},
		{till + "end\nend\n", 3, api.ErrForm},
		{till + "end\nx", 3, api.ErrForm},
		{due + "cash;4;1;5", 3, api.ErrForm},
		{till + "cash;4;1;05\nend\n", 2, api.ErrForm},
		{till + "cash;4;1;-5\nend\n", 2, api.ErrForm},
		{till + "cash;4;1;-0\nend\n", 2, api.ErrForm},
		{till + "cash;4;1;+5\nend\n", 2, api.ErrForm},
		{till + "cash;4;1;00\nend\n", 2, api.ErrForm},
		{till + "cash;4;;5\nend\n", 2, api.ErrForm},
		{till + "cash;4; 1;5\nend\n", 2, api.ErrForm},
		{till + "cash;4;1;5;\nend\n", 2, api.ErrForm},
		{till + "cash;4;1;0x5\nend\n", 2, api.ErrForm},
		{till + "cash;4;1;1_0\nend\n", 2, api.ErrForm},
		{till + "cash;4;1;٣\nend\n", 2, api.ErrForm},
		{till + "cash,4,1,5\nend\n", 2, api.ErrForm},
		{till + "bank;4;1;1000000000\nend\n", 2, api.ErrForm},
		{till + "bank;4;1;999999999\nend\n", 0, api.ErrValue},
		{"till;2;1000000000;3\nend\n", 1, api.ErrForm},
		{"till;2;999999999;3\nend\n", 0, api.ErrValue},
		{"till;99999999999999999999;9;3\nend\n", 1, api.ErrForm},
		{"till;0;9;3\nend\n", 0, api.ErrFew},
		{"till;9;9;3\nend\n", 0, api.ErrMany},
		{till + "same;0;2\nend\n", 0, api.ErrUnknown},
		{till + "same;1;1\nend\n", 0, api.ErrForm},
		{link + "maybe;1;0\nend\n", 0, api.ErrRepeat},
		{due + "bank;3;1;5\nend\n", 0, api.ErrOrder},
		{due + "bank;4;2;5\nend\n", 0, api.ErrUnknown},
		{till + strings.Repeat("same;0;1\n", 11) + "end\n", 0, api.ErrMany},
	} {
		x, line, e := pay.Parse(c.text)
		if line != c.line || e != c.want || !isEmpty(x) {
			t.Errorf("%.99q: %v %d %d, not %d %d", c.text, x, line, e, c.line, c.want)
		}
	}
}

// TestP8_14Accounts: an account is read from its till, and what is read is written as it was.
func TestP8_14Accounts(t *testing.T) {
	r := rand.New(rand.NewSource(14))
	refused, other := 0, 0
	for range 5000 {
		x := randomTill(r, 8, 10, 20)
		text, e := pay.Account(x)
		if e != api.OK {
			t.Fatalf("%v: %d", x, e)
		}
		read, line, e := pay.Parse(text)
		if e != api.OK || line != 0 || !sameTill(read, x) {
			t.Fatalf("%q: %v %d %d, not %v", text, read, line, e, x)
		}
		changed := spoilt(r, text)
		if read, line, e = pay.Parse(changed); e != api.OK {
			refused++
			if !isEmpty(read) || line != 0 && e != api.ErrForm {
				t.Fatalf("%q: %v %d %d", changed, read, line, e)
			}
			continue
		}
		other++
		if again, e := pay.Account(read); e != api.OK || again != changed {
			t.Fatalf("%q is read, but written %q %d", changed, again, e)
		}
	}
	if refused < 1000 || other < 500 {
		t.Error("too few accounts were looked at", refused, other)
	}
}

// spoilt returns a text of which one byte is changed, or two lines have changed places.
func spoilt(r *rand.Rand, text string) string {
	if r.Intn(4) == 0 {
		lines := strings.SplitAfter(text, "\n")
		i, j := r.Intn(len(lines)), r.Intn(len(lines))
		lines[i], lines[j] = lines[j], lines[i]
		return strings.Join(lines, "")
	}
	changed := []byte(text)
	changed[r.Intn(len(changed))] = ";\n-0123459e"[r.Intn(11)]
	return string(changed)
}
