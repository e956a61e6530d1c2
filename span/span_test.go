package span_test

import (
	"math"
	"testing"

	"swarf/api"
	"swarf/span"
)

// rng returns a range.
func rng(low, high int) api.Range { return api.Range{Min: low, Max: high} }

// TestIsWithin: numbers at both bounds and beyond them.
func TestIsWithin(t *testing.T) {
	for n, want := range map[int]bool{-4: false, -3: true, 0: true, 7: true, 8: false, math.MinInt: false, math.MaxInt: false} {
		if span.IsWithin(n, -3, 7) != want {
			t.Errorf("%d: not %v", n, want)
		}
	}
	if span.IsWithin(0, 0, -1) {
		t.Error("something is within nothing")
	}
}

// TestCount: from too few things to too many.
func TestCount(t *testing.T) {
	for n, want := range map[int]api.Errno{0: api.ErrFew, 1: api.ErrFew, 2: api.OK, 3: api.OK, 4: api.OK, 5: api.ErrMany, 99: api.ErrMany} {
		if e := span.Count(n, 2, 4); e != want {
			t.Errorf("%d: %d, not %d", n, e, want)
		}
	}
	if span.Count(0, 0, 0) != api.OK || span.Count(1, 0, 0) != api.ErrMany {
		t.Error("nothing is not nothing")
	}
}

// TestCheck: both numbers within the bounds come before their order.
func TestCheck(t *testing.T) {
	for _, c := range []struct {
		r    api.Range
		want api.Errno
	}{
		{rng(-3, 7), api.OK},
		{rng(7, 7), api.OK},
		{rng(-4, 7), api.ErrValue},
		{rng(-3, 8), api.ErrValue},
		{rng(8, 0), api.ErrValue},
		{rng(0, -4), api.ErrValue},
		{rng(math.MaxInt, math.MinInt), api.ErrValue},
		{rng(7, -3), api.ErrOrder},
		{rng(1, 0), api.ErrOrder},
	} {
		if e := span.Check(c.r, -3, 7); e != c.want {
			t.Errorf("%v: %d, not %d", c.r, e, c.want)
		}
	}
}

// TestOfTwo: sums, differences and what is common are those of single numbers.
func TestOfTwo(t *testing.T) {
	for low := range 5 {
		for high := low; high < 5; high++ {
			a, b := rng(low, high), rng(1, 3)
			plus, minus := rng(math.MaxInt, math.MinInt), rng(math.MaxInt, math.MinInt)
			meet := span.Meet(a, b)
			for n := a.Min; n <= a.Max; n++ {
				if (n >= b.Min && n <= b.Max) != (n >= meet.Min && n <= meet.Max) {
					t.Errorf("%v and %v meet in %v, but %d", a, b, meet, n)
				}
				for m := b.Min; m <= b.Max; m++ {
					plus = rng(min(plus.Min, n+m), max(plus.Max, n+m))
					minus = rng(min(minus.Min, n-m), max(minus.Max, n-m))
				}
			}
			if span.Plus(a, b) != plus || span.Minus(a, b) != minus || meet.Min > meet.Max && low <= 3 && high >= 1 {
				t.Errorf("%v and %v: %v, %v, %v", a, b, span.Plus(a, b), span.Minus(a, b), meet)
			}
		}
	}
	if span.Just(4) != rng(4, 4) || span.Just(-1) != rng(-1, -1) {
		t.Error("Just is not one number")
	}
}
