package outline

import (
	"slices"
	"testing"

	"pointillist/api"
	"pointillist/arc"
	"pointillist/flat"
)

func TestP13_1Cubics(t *testing.T) {
	for _, c := range []struct {
		m    api.Matrix
		l    []api.Segment
		want []api.Edge
	}{
		{same, list(moveTo(0, 0), cubicTo(p(1000, 1024), p(2000, 1024), p(3000, 0))), edges(0, 0, 1500, 768, 3000, 0, 0, 0)},
		{same, list(moveTo(0, 0), cubicTo(p(0, 0), p(0, 0), p(4096, 0)), closed(0, 0)), edges(0, 0, 512, 0, 1728, 0, 4096, 0, 0, 0)},
		{turn, list(moveTo(0, 0), cubicTo(p(0, 0), p(0, 0), p(4096, 0))), edges(0, 0, 0, 512, 0, 1728, 0, 4096, 0, 0)},
		{mirror, list(moveTo(0, 0), cubicTo(p(0, 0), p(0, 0), p(4096, 0))), edges(100, 0, -412, 0, -1628, 0, -3996, 0, 100, 0)},
		{point, list(moveTo(0, 0), cubicTo(p(one, one), p(0, one), p(one, 5)), lineTo(9, 9)), nil},
		// From the point on, which a Line has moved, and on to a Line; cut as taken, not ahead of it.
		{api.Matrix{A: 8 * one, D: one}, list(moveTo(7, 7), lineTo(0, 0), cubicTo(p(0, 0), p(0, 0), p(512, 0)), lineTo(512, 9)),
			edges(56, 7, 0, 0, 512, 0, 1728, 0, 4096, 0, 4096, 9, 56, 7)},
		{api.Matrix{A: one / 8, D: one}, list(moveTo(0, 0), cubicTo(p(0, 0), p(0, 0), p(4096, 0))), edges(0, 0, 512, 0, 0, 0)},
		// Behind one another, without a way back between.
		{same, list(moveTo(0, 0), cubicTo(p(1, 0), p(2, 0), p(3, 0)), cubicTo(p(4, 1), p(5, 2), p(6, 3))), edges(0, 0, 3, 0, 6, 3, 0, 0)},
	} {
		checkWords(t, c.m, c.l, c.want)
	}
}

func TestP13_1ChordsThatGoNowhere(t *testing.T) {
	for _, c := range []struct {
		l    []api.Segment
		want []api.Edge
	}{
		{list(moveTo(5, 5), cubicTo(p(5, 5), p(5, 5), p(5, 5))), nil},
		{list(moveTo(0, 0), cubicTo(p(512, 0), p(512, 0), p(0, 0)), closed(0, 0)), nil}, // flat, and back where it began
		{list(moveTo(0, 0), cubicTo(p(300, 0), p(0, 0), p(-900, 0))), edges(0, 0, -900, 0, 0, 0)},
		{list(moveTo(1350, 0), cubicTo(p(-1050, 0), p(-250, 0), p(3750, 0))), edges(1350, 0, 150, 0, 1350, 0, 3750, 0, 1350, 0)},
		{list(moveTo(5, 5), quadTo(p(5, 5), p(5, 5)), lineTo(6, 6)), edges(5, 5, 6, 6, 5, 5)},
		{list(moveTo(0, 0), quadTo(p(100, 100), p(0, 0)), lineTo(6, 6)), edges(0, 0, 6, 6, 0, 0)},
	} {
		checkWords(t, same, c.l, c.want)
	}
}

func TestP13_1Quads(t *testing.T) {
	for _, c := range []struct {
		m    api.Matrix
		l    []api.Segment
		want []api.Edge
	}{
		{same, list(moveTo(0, 0), quadTo(p(3, 6), p(6, 0))), edges(0, 0, 6, 0, 0, 0)},
		{same, list(moveTo(0, 0), quadTo(p(1500, 1536), p(3000, 0))), edges(0, 0, 1500, 768, 3000, 0, 0, 0)},
		{turn, list(moveTo(9, 9), lineTo(0, 0), quadTo(p(1500, 1536), p(3000, 0)), closed(9, 9)),
			edges(-9, 9, 0, 0, -768, 1500, 0, 3000, -9, 9)},
		// Two thirds of 1 are 1, which is taken to 1000, not to 667: the top lies at 750, not at 500.
		{api.Matrix{A: 1000 * one, D: one}, list(moveTo(0, 0), quadTo(p(1, 0), p(0, 0))), edges(0, 0, 750, 0, 0, 0)},
		{api.Matrix{A: -1000 * one, D: one}, list(moveTo(0, 0), quadTo(p(1, 0), p(0, 0))), edges(0, 0, -750, 0, 0, 0)},
	} {
		checkWords(t, c.m, c.l, c.want)
	}
}

// A quarter of a circle, as chapter 10 tells it: 36195 is 0.5523 of a pixel.
var quarter = bow(one, 0, one, 36195, 36195, one, 0, one)

func TestP13_1CurvedArcs(t *testing.T) {
	l := list(moveTo(one, 0), arcTo(one, one, 0, false, true, p(0, one)))
	for _, c := range []struct {
		m     api.Matrix
		taken api.Curve
	}{
		{same, quarter},
		{turn, bow(0, one, -36195, one, -one, 36195, -one, 0)},
		{mirror, bow(100-one, 0, 100-one, 36195, 100-36195, one, 100, one)},
		{api.Matrix{A: 3 * one, D: 2 * one}, bow(3*one, 0, 3*one, 2*36195, 3*36195, 2*one, 0, 2*one)},
	} {
		want := append(flat.Chords(c.taken), api.Edge{P: c.taken.S, Q: c.taken.P})
		if len(want) < 8 {
			t.Error(c, len(want))
		}
		checkWords(t, c.m, l, want)
		checkWords(t, c.m, append(l[:2:2], closed(one, 0)), want)
	}
	checkWords(t, point, l, nil)
}

// Of an arc of several cubics the chords of each come in order; it goes on from a Line, and a Line from it.
func TestP13_1ArcsOfSeveralCubics(t *testing.T) {
	for _, large := range []bool{false, true} {
		for _, sweep := range []bool{false, true} {
			g := arcTo(3*one, 2*one, 30*one, large, sweep, p(one, 3*one))
			cubics, _ := arc.Curves(p(4*one, one), g)
			want := edges(0, 5, 4*one, one)
			for _, c := range cubics {
				want = append(want, flat.Chords(c)...)
			}
			want = append(want, edges(one, 3*one, 9, 9, 0, 5)...)
			if len(cubics) < 2 || len(want) < 20 {
				t.Error(large, sweep, len(cubics), len(want))
			}
			checkWords(t, same, list(moveTo(0, 5), lineTo(4*one, one), g, lineTo(9, 9)), want)
		}
	}
}

func TestP13_1StraightArcs(t *testing.T) {
	to := p(3*one, 4*one)
	for _, g := range []api.Segment{
		arcTo(0, 0, 0, false, false, to), arcTo(0, one, 0, true, true, to), arcTo(one, 0, 30*one, false, true, to),
		arcTo(255, one, 0, true, false, to), arcTo(one, 255, 0, false, false, to), arcTo(most, 255, 0, false, false, to),
	} {
		checkWords(t, same, list(moveTo(5, 6), g), edges(5, 6, to.X, to.Y, 5, 6))
		checkWords(t, turn, list(moveTo(5, 6), g, lineTo(9, 9)), edges(-6, 5, -to.Y, to.X, -9, 9, -6, 5))
		checkWords(t, point, list(moveTo(5, 6), g), nil)
	}
	// So near to each other that, held against the radii, nothing is left between.
	checkWords(t, same, list(moveTo(6, 5), arcTo(most, most, 0, false, false, p(5, 5)), lineTo(5, 9)), edges(6, 5, 5, 5, 5, 9, 6, 5))
	if shape := arc.Shape(p(6, 5), arcTo(one, one, 0, false, false, p(5, 5))); shape != arc.Curved {
		t.Error("near each other alone", shape)
	}
}

func TestP13_1ArcsOfNoShape(t *testing.T) {
	for _, g := range []api.Segment{
		arcTo(2*one, 5*one, 0, false, false, p(5, 6)), arcTo(2*one, 5*one, 45*one, true, true, p(5, 6)), arcTo(0, 0, 0, true, false, p(5, 6)),
	} {
		checkWords(t, same, list(moveTo(5, 6), g), nil)
		checkWords(t, same, list(moveTo(5, 6), g, g, closed(5, 6)), nil)
		checkWords(t, skew, list(moveTo(5, 6), g, moveTo(1, 1)), nil)
		checkWords(t, same, list(moveTo(0, 0), lineTo(5, 6), g, lineTo(7, 8)), edges(0, 0, 5, 6, 7, 8, 0, 0))
	}
}

// A curved arc that is taken to a point, or to a line, is what is left of it.
func TestP13_1ArcsThatAreTakenFlat(t *testing.T) {
	l := list(moveTo(one, 0), arcTo(one, one, 0, false, true, p(0, one)))
	flatY := api.Matrix{A: one}
	c := bow(one, 0, one, 0, 36195, 0, 0, 0)
	checkWords(t, flatY, l, append(flat.Chords(c), api.Edge{P: c.S, Q: c.P}))
	got, _ := Edges(flatY, l...)
	if slices.ContainsFunc(got, func(e api.Edge) bool { return e.P.Y != 0 || e.Q.Y != 0 }) || len(got) < 4 {
		t.Error(got)
	}
}
