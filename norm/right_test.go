package norm

import (
	"math"
	"slices"
	"testing"

	"pointillist/api"
)

// numbersOf are the numbers of a segment, in the order To, C1, C2, radii, turn.
func numbersOf(g *api.Segment) []*int64 {
	return []*int64{&g.To.X, &g.To.Y, &g.C1.X, &g.C1.Y, &g.C2.X, &g.C2.Y, &g.Rx, &g.Ry, &g.Turn}
}

// has tells which of its numbers each kind has, in the same order; and all but the radii, 6 and 7, may be below 0.
var has = [...][]int{
	api.Move: {0, 1}, api.Line: {0, 1}, api.Cubic: {0, 1, 2, 3, 4, 5}, api.Quad: {0, 1, 2, 3}, api.Arc: {0, 1, 6, 7, 8}, api.Close: {0, 1},
}

// alone is a list in which a segment of any kind may stand, if it is right in itself.
func alone(g api.Segment) []api.Segment {
	switch g.Kind {
	case api.Move:
		return []api.Segment{g}
	case api.Close:
		return []api.Segment{move(g.To.X, g.To.Y), g}
	}
	return []api.Segment{move(5, 5), g}
}

func TestP7_2NoSegments(t *testing.T) {
	if !Right() || !Right([]api.Segment{}...) {
		t.Error("none")
	}
}

func TestP7_2EachNumberOfEachKind(t *testing.T) {
	for kind := api.Move; kind <= api.Close; kind++ {
		for i := range 9 {
			for _, n := range []int64{
				0, 1, -1, most, least, api.Bound, -api.Bound, api.Bound + 1, -api.Bound - 1, math.MaxInt64, math.MinInt64,
			} {
				g := api.Segment{Kind: kind}
				*numbersOf(&g)[i] = n
				want := n == 0
				if slices.Contains(has[kind], i) {
					want = least <= n && n <= most && (n >= 0 || i != 6 && i != 7)
				}
				if Right(alone(g)...) != want || Right(append(alone(g), move(1, 1), line(2, 2))...) != want {
					t.Error(g, want)
				}
			}
		}
	}
}

func TestP7_2FlagsOfEachKind(t *testing.T) {
	for kind := api.Move; kind <= api.Close; kind++ {
		for i := range 4 {
			g := api.Segment{Kind: kind, Large: i/2 == 1, Sweep: i%2 == 1}
			if Right(alone(g)...) != (i == 0 || kind == api.Arc) {
				t.Error(g)
			}
		}
	}
}

func TestP7_2Kinds(t *testing.T) {
	for _, kind := range []int{0, 7, 8, -1, -6, 257, 258, math.MaxInt, math.MinInt} {
		g := api.Segment{Kind: kind}
		if Right(g) || Right(move(0, 0), g) || Right(move(0, 0), shut(0, 0), g) || Right(move(0, 0), g, line(0, 0)) {
			t.Error(kind)
		}
	}
}

func TestP7_2Full(t *testing.T) {
	l := []api.Segment{
		move(most, least), line(least, most), cubic(p(most, most), p(least, least), p(1, most)), quad(p(least, most), p(most, 2)),
		arc(most, most, least, true, true, p(least, least)), arc(0, 0, most, false, true, p(most, most)), shut(most, least),
	}
	if !Right(l...) {
		t.Fatal("whole")
	}
	for i := range l {
		for j := range 9 {
			for _, n := range []int64{api.Bound, -api.Bound} {
				was := l[i]
				*numbersOf(&l[i])[j] = n
				if Right(l...) {
					t.Error(l[i])
				}
				l[i] = was
			}
		}
	}
}

func TestP7_2TheFirstIsAMove(t *testing.T) {
	for kind := api.Move; kind <= api.Close; kind++ {
		g := api.Segment{Kind: kind}
		if Right(g) != (kind == api.Move) || Right(g, move(0, 0), line(1, 1)) != (kind == api.Move) {
			t.Error(kind)
		}
	}
}

func TestP7_2WhatFollowsAClose(t *testing.T) {
	for kind := api.Move; kind <= api.Close; kind++ {
		g := api.Segment{Kind: kind}
		if Right(move(0, 0), shut(0, 0), g) != (kind == api.Move) || Right(move(0, 0), line(1, 1), shut(0, 0), g, line(1, 1)) != (kind == api.Move) {
			t.Error(kind)
		}
	}
}

func TestP7_2WhereAClosesToIs(t *testing.T) {
	for _, c := range []struct {
		l  []api.Segment
		ok bool
	}{
		{[]api.Segment{move(1, 2), shut(1, 2)}, true},
		{[]api.Segment{move(1, 2), shut(1, 3)}, false},
		{[]api.Segment{move(1, 2), shut(2, 2)}, false},
		{[]api.Segment{move(1, 2), shut(0, 0)}, false},
		{[]api.Segment{move(1, 2), line(3, 4), shut(1, 2)}, true},
		{[]api.Segment{move(1, 2), line(3, 4), shut(3, 4)}, false},
		{[]api.Segment{move(1, 2), move(3, 4), shut(3, 4)}, true}, // the last Move counts
		{[]api.Segment{move(1, 2), move(3, 4), shut(1, 2)}, false},
		{[]api.Segment{move(1, 2), shut(1, 2), move(3, 4), shut(3, 4)}, true},
		{[]api.Segment{move(1, 2), shut(1, 2), move(3, 4), shut(1, 2)}, false},
		{[]api.Segment{move(1, 2), shut(1, 2), move(3, 4), line(1, 2), shut(3, 4), move(3, 4), shut(3, 4)}, true},
		{[]api.Segment{move(1, 2), line(3, 4), shut(1, 2), move(1, 2), move(1, 2), line(0, 0)}, true},
		{[]api.Segment{move(1, 2), line(3, 4), shut(0, 2), move(1, 2), shut(1, 2)}, false},
	} {
		if Right(c.l...) != c.ok {
			t.Error(c)
		}
	}
}
