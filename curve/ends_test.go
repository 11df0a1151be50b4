package curve

import (
	"testing"

	"pointillist/api"
)

// checkEnds checks P11.4 of a curve that is right. What it is cut into is the same backwards, just so: the middle of two points
// is that of the two the other way.
func checkEnds(t *testing.T, c api.Curve) {
	t.Helper()
	a, b := Cut(c)
	if a.P != c.P || b.S != c.S || a.S != b.P || !Right(a) || !Right(b) {
		t.Error(c, a, b)
	}
	if At(c, 0) != a.P || At(c, one/2) != a.S || At(c, one) != b.S {
		t.Error(c, At(c, 0), At(c, one/2), At(c, one))
	}
	if d, e := Cut(Back(c)); d != Back(b) || e != Back(a) {
		t.Error("backwards", c, d, e, "want", Back(b), Back(a))
	}
}

func TestP11_4EndsOfWhatIsCut(t *testing.T) {
	ends := []int64{bound, bound - 1, 1, 0, -1, 1 - bound, -bound}
	for _, x := range ends {
		for _, y := range ends {
			for _, c := range []api.Curve{
				curve(x, y, 3, -4, 7, 9, y, x), curve(x, y, y, x, x, -y, -y, -x), curve(x, y, x, y, x, y, x, y), curve(0, 0, x, y, y, x, 1, 1),
			} {
				checkEnds(t, c)
			}
		}
	}
	var mix mixer
	for range 100000 {
		checkEnds(t, mix.curve())
		if t.Failed() {
			return
		}
	}
}

// Cut again and again, 20 times, its pieces join, from its beginning to its end.
func TestP11_4WhatIsCutJoins(t *testing.T) {
	var mix mixer
	for range 200 {
		c := mix.curve()
		rest, at := c, c.P
		for range 20 {
			checkEnds(t, rest)
			a, b := Cut(rest)
			if mix.next()>>20&1 == 1 {
				rest = a
				continue
			}
			if a.P != at {
				t.Fatal(c, rest, at)
			}
			rest, at = b, a.S
		}
		if rest.P != at {
			t.Fatal(c, rest, at)
		}
	}
	l := []api.Curve{mix.curve()}
	first, last := l[0].P, l[0].S
	for range 8 {
		var next []api.Curve
		for _, c := range l {
			a, b := Cut(c)
			next = append(next, a, b)
		}
		l = next
	}
	for i := range len(l) - 1 {
		if l[i].S != l[i+1].P {
			t.Error(i, l[i], l[i+1])
		}
	}
	if len(l) != 256 || l[0].P != first || l[255].S != last {
		t.Error(len(l), l[0], l[255])
	}
}

// Backwards each step tells the same: what is taken from its other end is whole. Rounded by a half at each of three steps, a point
// lies within 3/2 of where it would lie otherwise, and one of a part, whose points are rounded as much, within 3: so the two are
// 4 apart at most.
func TestP11_4ThePointsAreTheSameButForRounding(t *testing.T) {
	var mix mixer
	apart := int64(0)
	for range 100000 {
		c, at := mix.curve(), mix.t()
		here := At(c, at)
		if back := At(Back(c), one-at); back != here {
			t.Fatal(c, at, here, back)
		}
		a, b := Cut(c)
		part := At(b, 2*at-one)
		if at <= one/2 {
			part = At(a, 2*at)
		}
		apart = max(apart, far(here, part))
		if apart > 4 {
			t.Fatal(c, at, here, part)
		}
	}
	if apart == 0 {
		t.Error("nothing was rounded")
	}
}
