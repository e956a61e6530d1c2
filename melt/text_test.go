package melt_test

import (
	"math/rand"
	"slices"
	"strings"
	"testing"

	"swarf/api"
	"swarf/melt"
)

// TestP6_4Reasons: texts of proofs, and all errors in their order.
func TestP6_4Reasons(t *testing.T) {
	for _, c := range []struct {
		name  string
		proof []api.Bound
		text  string
		want  api.Errno
	}{
		{"P", list(cut(0, 2), light, dear), "cut 0 2\nlight\ndear\n", api.OK},
		{"the greatest numbers", list(cut(3, 6), heavy, broken(2)), "cut 3 6\nheavy\nbroken 2\n", api.OK},
		{"the least numbers", list(broken(0), cut(0, 0)), "broken 0\ncut 0 0\n", api.OK},
		{"nothing", nil, "", api.OK},
		{"6000 bounds", slices.Repeat(list(cut(1, 2)), 6000), strings.Repeat("cut 1 2\n", 6000), api.OK},
		{"6001 bounds", make([]api.Bound, 6001), "", api.ErrMany},
		{"the kind 0", list(api.Bound{At: 9}), "", api.ErrKind},
		{"the kind 6", list(light, api.Bound{Reason: 6, At: 9}), "", api.ErrKind},
		{"the kind -1", list(api.Bound{Reason: -1}), "", api.ErrKind},
		{"the first bound first", list(cut(4, 0), api.Bound{}), "", api.ErrValue},
		{"cut at 4", list(cut(4, 0)), "", api.ErrValue},
		{"cut at -1", list(cut(-1, 0)), "", api.ErrValue},
		{"cut up to 7", list(cut(0, 7)), "", api.ErrValue},
		{"cut up to -1", list(cut(0, -1)), "", api.ErrValue},
		{"broken at 3", list(broken(3)), "", api.ErrValue},
		{"broken at -1", list(broken(-1)), "", api.ErrValue},
		{"broken with Cut", list(api.Bound{Reason: api.ByBroken, Cut: 1}), "", api.ErrValue},
		{"light with At", list(api.Bound{Reason: api.ByLight, At: 1}), "", api.ErrValue},
		{"light with Cut", list(api.Bound{Reason: api.ByLight, Cut: -1}), "", api.ErrValue},
		{"heavy with At", list(api.Bound{Reason: api.ByHeavy, At: -1}), "", api.ErrValue},
		{"heavy with Cut", list(api.Bound{Reason: api.ByHeavy, Cut: 1}), "", api.ErrValue},
		{"dear with At", list(dear, api.Bound{Reason: api.ByDear, At: 1}), "", api.ErrValue},
		{"dear with Cut", list(dear, api.Bound{Reason: api.ByDear, Cut: 1}), "", api.ErrValue},
	} {
		text, e := melt.Reasons(c.proof)
		if text != c.text || e != c.want {
			t.Errorf("%s: %.99q %d, not %.99q %d", c.name, text, e, c.text, c.want)
		}
		if proof, line, e := melt.Parse(c.text); c.want == api.OK && (!slices.Equal(proof, c.proof) || line != 0 || e != api.OK) {
			t.Errorf("%s: read %d bounds, %d %d", c.name, len(proof), line, e)
		}
	}
}

// TestP6_4Parse: texts with errors, and the lines in which they are.
func TestP6_4Parse(t *testing.T) {
	for _, c := range []struct {
		text string
		line int
		want api.Errno
	}{
		{strings.Repeat("x", 60001), 0, api.ErrLong},
		{strings.Repeat("x", 60000), 1, api.ErrForm},
		{strings.Repeat("dear\n", 12000) + "\n", 0, api.ErrLong},
		{strings.Repeat("dear\n", 12000), 0, api.ErrMany},
		{strings.Repeat("dear\n", 6001), 0, api.ErrMany},
		{strings.Repeat("cut 9 9\n", 6001), 0, api.ErrMany},
		{strings.Repeat("dear\n", 11999) + "dead\n", 12000, api.ErrForm},
		{"\n", 1, api.ErrForm},
		{" ", 1, api.ErrForm},
		{"light", 1, api.ErrForm},
		{"light\nheavy", 2, api.ErrForm},
		{"light\nx", 2, api.ErrForm},
		{"light\n\n", 2, api.ErrForm},
		{"light\n ", 2, api.ErrForm},
		{"\nlight\n", 1, api.ErrForm},
		{"light \n", 1, api.ErrForm},
		{" light\n", 1, api.ErrForm},
		{"light\r\n", 1, api.ErrForm},
		{"Light\n", 1, api.ErrForm},
		{"lights\n", 1, api.ErrForm},
		{"ligh\n", 1, api.ErrForm},
		{"light 0\n", 1, api.ErrForm},
		{"heavy 0\n", 1, api.ErrForm},
		{"dear 0\n", 1, api.ErrForm},
		{"light heavy\n", 1, api.ErrForm},
		{"cut\n", 1, api.ErrForm},
		{"cut 0\n", 1, api.ErrForm},
		{"cut 0 1 2\n", 1, api.ErrForm},
		{"cut 0 1 \n", 1, api.ErrForm},
		{"cut 0 12\n", 1, api.ErrForm},
		{"cut 00 1\n", 1, api.ErrForm},
		{"cut 0  1\n", 1, api.ErrForm},
		{"cut  0 1\n", 1, api.ErrForm},
		{"cut 0\t1\n", 1, api.ErrForm},
		{"cut 0 -1\n", 1, api.ErrForm},
		{"cut 0 +1\n", 1, api.ErrForm},
		{"cut 0 x\n", 1, api.ErrForm},
		{"cut 0 ٣\n", 1, api.ErrForm},
		{"cut0 1\n", 1, api.ErrForm},
		{"cut 0 1", 1, api.ErrForm},
		{"broken\n", 1, api.ErrForm},
		{"broken 0 0\n", 1, api.ErrForm},
		{"broken 10\n", 1, api.ErrForm},
		{"0\n", 1, api.ErrForm},
		{"0 1\n", 1, api.ErrForm},
		{"cut 9 9\nbroken 9\nx\n", 3, api.ErrForm},
		{"cut 9 9\n", 0, api.ErrValue},
		{"cut 3 7\n", 0, api.ErrValue},
		{"cut 4 6\n", 0, api.ErrValue},
		{"broken 3\n", 0, api.ErrValue},
		{"broken 9\n", 0, api.ErrValue},
	} {
		proof, line, e := melt.Parse(c.text)
		if line != c.line || e != c.want || proof != nil {
			t.Errorf("%.99q: %d bounds, %d %d, not %d %d", c.text, len(proof), line, e, c.line, c.want)
		}
	}
}

// anyBounds returns random bounds that can be written.
func anyBounds(r *rand.Rand) []api.Bound {
	var proof []api.Bound
	for range r.Intn(40) {
		all := list(cut(r.Intn(4), r.Intn(7)), light, heavy, broken(r.Intn(3)), dear)
		proof = append(proof, all[r.Intn(len(all))])
	}
	return proof
}

// TestP6_12Written: a proof is read from its reasons, and what is read is written as it was.
func TestP6_12Written(t *testing.T) {
	r := rand.New(rand.NewSource(12))
	for i := range 2000 {
		proof := anyBounds(r)
		if o := anyOrder(r); i%2 == 0 {
			_, cost := cheapest(o)
			proof, _ = melt.Prove(o, cost)
		}
		text, e := melt.Reasons(proof)
		if e != api.OK {
			t.Fatalf("%v: %d", proof, e)
		}
		read, line, e := melt.Parse(text)
		if e != api.OK || line != 0 || !slices.Equal(read, proof) {
			t.Fatalf("%q: %v %d %d, not %v", text, read, line, e, proof)
		}
		if text != "" {
			spoil(t, r, text)
		}
	}
}

// spoil changes one byte of a text: it is refused, or is the text of what is read.
func spoil(t *testing.T, r *rand.Rand, text string) {
	t.Helper()
	changed := []byte(text)
	changed[r.Intn(len(changed))] = " \n-0169d"[r.Intn(8)]
	proof, line, e := melt.Parse(string(changed))
	if e != api.OK {
		return
	}
	if again, f := melt.Reasons(proof); line != 0 || f != api.OK || again != string(changed) {
		t.Fatalf("%q is read, but written %q %d", changed, again, f)
	}
}
