package outline

import (
	"math"
	"slices"
	"testing"

	"pointillist/api"
)

// wrongMatrices have one number each that goes too far.
func wrongMatrices() []api.Matrix {
	var l []api.Matrix
	for _, n := range []int64{api.Bound, -api.Bound, math.MaxInt64, math.MinInt64} {
		for i := range 6 {
			m := same
			*[]*int64{&m.A, &m.B, &m.C, &m.D, &m.E, &m.F}[i] = n
			l = append(l, m)
		}
	}
	return l
}

// wrongSegments aren't right, each for one cause; what comes ahead of it would have edges.
func wrongSegments() [][]api.Segment {
	ahead := list(moveTo(0, 0), lineTo(one, 0), lineTo(one, one))
	l := [][]api.Segment{
		{lineTo(1, 1)}, {closed(0, 0)}, {quadTo(p(1, 1), p(2, 2))}, {{}}, {moveTo(api.Bound, 0)}, {moveTo(0, -api.Bound)},
	}
	for _, g := range list(
		api.Segment{Kind: 0}, api.Segment{Kind: 7}, api.Segment{Kind: -1}, api.Segment{Kind: math.MinInt},
		lineTo(0, api.Bound), lineTo(math.MinInt64, 0), closed(one, 0), closed(one, one),
		cubicTo(p(api.Bound, 0), p(0, 0), p(0, 0)), cubicTo(p(0, 0), p(0, -api.Bound), p(0, 0)), quadTo(p(0, math.MaxInt64), p(0, 0)),
		arcTo(-1, one, 0, false, false, p(0, 0)), arcTo(one, -1, 0, false, false, p(0, 0)), arcTo(api.Bound, one, 0, false, false, p(0, 0)),
		arcTo(one, one, -api.Bound, false, false, p(0, 0)), arcTo(one, one, 0, false, false, p(api.Bound, 0)),
		api.Segment{Kind: api.Move, C1: p(0, 1)}, api.Segment{Kind: api.Line, Sweep: true}, api.Segment{Kind: api.Quad, C2: p(1, 0)},
		api.Segment{Kind: api.Cubic, Turn: 1}, api.Segment{Kind: api.Arc, C1: p(1, 0)}, api.Segment{Kind: api.Close, Rx: 1},
	) {
		l = append(l, append(slices.Clone(ahead), g), append(slices.Clone(ahead), g, lineTo(0, one)))
	}
	for _, g := range list(lineTo(2, 2), cubicTo(p(1, 1), p(2, 2), p(3, 3)), quadTo(p(1, 1), p(2, 2)), arcTo(one, one, 0, false, false, p(2, 2)), closed(0, 0)) {
		l = append(l, append(slices.Clone(ahead), closed(0, 0), g)) // behind a Close
	}
	return l
}

func TestP13_1AMatrixThatIsntRight(t *testing.T) {
	for _, m := range wrongMatrices() {
		checkWrong(t, m, nil, api.ErrArg, nil)
		checkWrong(t, m, list(moveTo(0, 0)), api.ErrArg, nil)
		checkWrong(t, m, list(moveTo(0, 0), lineTo(one, 0), closed(0, 0)), api.ErrArg, nil)
	}
}

func TestP13_1SegmentsThatArentRight(t *testing.T) {
	for _, l := range wrongSegments() {
		for _, m := range []api.Matrix{same, turn, point, {}} {
			checkWrong(t, m, l, api.ErrArg, nil)
		}
	}
}

func TestR2BothArentRight(t *testing.T) {
	for _, l := range wrongSegments() {
		checkWrong(t, wrongMatrices()[0], l, api.ErrArg, nil)
	}
}

// What isn't right is told, also where something goes too far ahead of it.
func TestR2ArgAheadOfRange(t *testing.T) {
	far := api.Matrix{A: one, D: one, E: most}
	ahead := list(moveTo(0, 0), lineTo(one, 0), lineTo(0, 0))
	checkFar(t, far, ahead, nil)
	checkWrong(t, far, append(ahead, api.Segment{Kind: 9}), api.ErrArg, nil)
	checkWrong(t, far, append(ahead, closed(0, 0), lineTo(0, 0)), api.ErrArg, nil)
	far.F = api.Bound
	checkWrong(t, far, ahead, api.ErrArg, nil)
}

// right moves all by a pixel: what lies a pixel or more within the bound may be.
var right = api.Matrix{A: one, D: one, E: one}

const (
	edge   = most - one // is taken to most by right
	beyond = edge + 1
)

func TestP13_1PointsThatGoTooFar(t *testing.T) {
	ahead := edges(one, 0, one+9, 0)
	for _, c := range []struct {
		l    []api.Segment
		told []api.Edge
	}{
		{list(moveTo(beyond, 0), lineTo(0, 0)), nil},
		{list(moveTo(0, 0), lineTo(beyond, 0)), nil},
		{list(moveTo(0, 0), lineTo(9, 0), lineTo(beyond, 0), lineTo(5, 5), closed(0, 0)), ahead},
		{list(moveTo(0, 0), lineTo(9, 0), quadTo(p(beyond+2, 0), p(edge, 0)), lineTo(5, 5)), ahead},
		{list(moveTo(0, 0), lineTo(9, 0), quadTo(p(beyond, 0), p(beyond, 0)), lineTo(5, 5)), ahead},
		{list(moveTo(0, 0), lineTo(9, 0), cubicTo(p(beyond, 0), p(0, 0), p(0, 0)), lineTo(5, 5)), ahead},
		{list(moveTo(0, 0), lineTo(9, 0), cubicTo(p(0, 0), p(beyond, 0), p(0, 0)), lineTo(5, 5)), ahead},
		{list(moveTo(0, 0), lineTo(9, 0), cubicTo(p(0, 0), p(0, 0), p(beyond, 0)), lineTo(5, 5)), ahead},
		{list(moveTo(0, 0), lineTo(9, 0), arcTo(0, 0, 0, false, false, p(beyond, 0)), lineTo(5, 5)), ahead}, // straight
		{list(moveTo(0, 0), lineTo(9, 0), moveTo(beyond, 0), lineTo(0, 0)), edges(one, 0, one+9, 0, one, 0)},
	} {
		checkFar(t, right, c.l, c.told)
	}
}

func TestP13_1PointsThatGoJustSoFar(t *testing.T) {
	checkWords(t, right, list(moveTo(edge, 0), lineTo(0, 0)), edges(most, 0, one, 0, most, 0))
	checkWords(t, turn, list(moveTo(most, 0), lineTo(0, most)), edges(0, most, -most, 0, 0, most))
	checkWords(t, right, list(moveTo(edge, 0), closed(edge, 0), moveTo(edge, -most), moveTo(0, 0)), nil)
	left := api.Matrix{A: -one, D: -one, E: -one, F: -one}
	checkWords(t, left, list(moveTo(edge, edge), lineTo(0, 0)), edges(-most, -most, -one, -one, -most, -most))
	checkFar(t, left, list(moveTo(0, 0), lineTo(5, 5), lineTo(0, beyond)), edges(-one, -one, -one-5, -one-5))
	// C1 may go farther than what is made of it, which alone is taken.
	checkWords(t, right, list(moveTo(edge-3, 0), quadTo(p(beyond, 0), p(edge-3, 0))), nil)
	checkFar(t, right, list(moveTo(edge, 0), quadTo(p(beyond, 0), p(edge, 0))), nil)
	l := list(moveTo(0, 0), quadTo(p(beyond, 0), p(0, 0)))
	want, near := wordsOutline(right, l)
	if !near || len(want) < 1000 {
		t.Error(near, len(want))
	}
	check(t, right, l, want)
}

// The point that a Move went to is taken by what closes, if nothing has taken it ahead of that; by the Move itself it isn't.
func TestP13_1WhatClosesGoesTooFar(t *testing.T) {
	ahead := list(moveTo(0, 0), lineTo(9, 0), lineTo(9, 9))
	told := edges(one, 0, one+9, 0, one+9, 9, one, 0)
	nothing := arcTo(one, one, 0, false, false, p(beyond, 0))
	for _, l := range [][]api.Segment{
		{moveTo(beyond, 0)}, {moveTo(beyond, 0), closed(beyond, 0)}, {moveTo(beyond, 0), moveTo(0, 0), lineTo(1, 0)},
		{moveTo(beyond, 0), nothing}, {moveTo(beyond, 0), nothing, closed(beyond, 0), moveTo(0, 0)},
	} {
		checkFar(t, right, l, nil)
		checkFar(t, right, slices.Concat(ahead, l), told)
		checkFar(t, right, slices.Concat(ahead, list(closed(0, 0)), l), told)
	}
}

// Half a circle, ten pixels about 65520, 0, from its left to its right: its second cubic goes ten pixels beyond its middle.
var half = list(moveTo(65510*one, 0), lineTo(65510*one, 5), arcTo(10*one, 10*one, 0, false, true, p(65530*one, 5)), lineTo(0, 0))

func TestP13_1ArcsThatGoTooFar(t *testing.T) {
	// Taken, only its end does; it may be moved by less.
	by := api.Matrix{A: one, D: one, E: 6*one - 1}
	if l, e := Edges(by, half...); e != api.OK || len(l) < 60 {
		t.Error(len(l), e)
	}
	want, _ := wordsOutline(by, half)
	checkWords(t, by, half, want)
	for _, e := range []int64{6 * one, 7 * one, 16*one + 1} {
		by.E = e
		checkFar(t, by, half, edges(65510*one+e, 0, 65510*one+e, 5))
	}
	// Ahead of being taken: whatever takes it.
	bulge := arcTo(10*one, 10*one, 0, false, true, p(most-1, 20*one))
	for _, m := range []api.Matrix{same, {A: 1, D: 1}, {}, point} {
		l := list(moveTo(0, 0), lineTo(0, one), lineTo(most-1, 0), bulge, closed(0, 0))
		ahead, _ := wordsOutline(m, l)
		checkFar(t, m, l, ahead)
		bulge.Sweep = false
		l[3] = bulge
		ahead, _ = wordsOutline(m, l)
		checkWords(t, m, l, ahead)
		bulge.Sweep = true
	}
	checkFar(t, same, list(moveTo(0, 0), lineTo(0, one), lineTo(most-1, 0), bulge), edges(0, 0, 0, one, most-1, 0))
	checkFar(t, point, list(moveTo(0, 0), lineTo(0, one), lineTo(most-1, 0), bulge), nil)
}
