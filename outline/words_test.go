package outline

import (
	"math/big"
	"slices"
	"testing"

	"pointillist/api"
	"pointillist/arc"
	"pointillist/flat"
)

const (
	one  = api.One
	most = api.Bound - 1 // the greatest number that may be
)

func p(x, y int64) api.Point { return api.Point{X: x, Y: y} }

func moveTo(x, y int64) api.Segment { return api.Segment{Kind: api.Move, To: p(x, y)} }
func lineTo(x, y int64) api.Segment { return api.Segment{Kind: api.Line, To: p(x, y)} }
func closed(x, y int64) api.Segment { return api.Segment{Kind: api.Close, To: p(x, y)} }

func cubicTo(c1, c2, to api.Point) api.Segment {
	return api.Segment{Kind: api.Cubic, C1: c1, C2: c2, To: to}
}

func quadTo(c1, to api.Point) api.Segment { return api.Segment{Kind: api.Quad, C1: c1, To: to} }

func arcTo(rx, ry, turn int64, large, sweep bool, to api.Point) api.Segment {
	return api.Segment{Kind: api.Arc, Rx: rx, Ry: ry, Turn: turn, Large: large, Sweep: sweep, To: to}
}

func bow(n ...int64) api.Curve {
	return api.Curve{P: p(n[0], n[1]), Q: p(n[2], n[3]), R: p(n[4], n[5]), S: p(n[6], n[7])}
}

func list(g ...api.Segment) []api.Segment { return g }

// edges are those from each point to the one behind it, whose numbers are told one behind the other.
func edges(n ...int64) []api.Edge {
	var l []api.Edge
	for ; len(n) >= 4; n = n[2:] {
		l = append(l, api.Edge{P: p(n[0], n[1]), Q: p(n[2], n[3])})
	}
	return l
}

var (
	same   = api.Matrix{A: one, D: one}
	turn   = api.Matrix{B: one, C: -one} // a quarter, from X to Y
	mirror = api.Matrix{A: -one, D: one, E: 100}
	point  = api.Matrix{E: 7, F: -7} // takes all to one point
	skew   = api.Matrix{A: 40000, B: -12345, C: 54321, D: 77777, E: -987654, F: 123}
)

// nearest is the whole number nearest to (a b + c d) / 2^16, of two the greater one, and n added: shifts of big numbers go down.
func nearest(a, b, c, d, n int64) int64 {
	sum := new(big.Int).Mul(big.NewInt(a), big.NewInt(b))
	sum.Add(sum, new(big.Int).Mul(big.NewInt(c), big.NewInt(d)))
	sum.Add(sum, big.NewInt(1<<15))
	return sum.Rsh(sum, 16).Int64() + n
}

// wordsTaken is layer 8's words, of points that are within the bound.
func wordsTaken(m api.Matrix, q api.Point) (api.Point, bool) {
	x, y := nearest(m.A, q.X, m.C, q.Y, m.E), nearest(m.B, q.X, m.D, q.Y, m.F)
	return p(x, y), max(x, -x, y, -y) <= most
}

// third is layer 11's: the nearest whole number to a third of that, of which no half can be.
func third(n int64) int64 {
	if n < 0 {
		return -third(-n)
	}
	return (n + 1) / 3
}

// wordsFigures are the lines (two points) and the curves (four points) of a segment, ahead of being taken; false, if there
// are none, since they go too far.
func wordsFigures(from, beginning api.Point, open bool, g api.Segment) ([][]api.Point, bool) {
	straight := [][]api.Point{{from, g.To}}
	switch g.Kind {
	case api.Move:
		if open {
			return [][]api.Point{{from, beginning}}, true
		}
		return nil, true
	case api.Cubic:
		return [][]api.Point{{from, g.C1, g.C2, g.To}}, true
	case api.Quad:
		q := p(third(from.X+2*g.C1.X), third(from.Y+2*g.C1.Y))
		r := p(third(g.To.X+2*g.C1.X), third(g.To.Y+2*g.C1.Y))
		return [][]api.Point{{from, q, r, g.To}}, true
	case api.Arc:
		return wordsArc(from, g)
	}
	return straight, true // a Line, and a Close, whose To is its beginning
}

func wordsArc(from api.Point, g api.Segment) ([][]api.Point, bool) {
	if shape := arc.Shape(from, g); shape == arc.Nothing {
		return nil, true
	} else if shape == arc.Straight {
		return [][]api.Point{{from, g.To}}, true
	}
	var l [][]api.Point
	curves, e := arc.Curves(from, g)
	for _, c := range curves {
		l = append(l, []api.Point{c.P, c.Q, c.R, c.S})
	}
	return l, e == api.OK
}

// wordsStroke are the edges of lines and curves, taken.
func wordsStroke(m api.Matrix, figures [][]api.Point) ([]api.Edge, bool) {
	var l []api.Edge
	for _, f := range figures {
		taken := make([]api.Point, len(f))
		for i, q := range f {
			ok := false
			if taken[i], ok = wordsTaken(m, q); !ok {
				return nil, false
			}
		}
		if len(f) == 2 {
			l = append(l, api.Edge{P: taken[0], Q: taken[1]})
		} else {
			l = append(l, flat.Chords(api.Curve{P: taken[0], Q: taken[1], R: taken[2], S: taken[3]})...)
		}
	}
	return slices.DeleteFunc(l, func(e api.Edge) bool { return e.P == e.Q }), true
}

// wordsOutline are the edges ahead of the segment with which they go too far, by the chapter's words, and whether none does:
// of a matrix and of segments that are right. A Move behind all of them closes the end.
func wordsOutline(m api.Matrix, l []api.Segment) ([]api.Edge, bool) {
	var told []api.Edge
	var from, beginning api.Point
	open := false
	for _, g := range append(slices.Clone(l), api.Segment{Kind: api.Move}) {
		figures, near := wordsFigures(from, beginning, open, g)
		if !near {
			return told, false
		}
		stroke, near := wordsStroke(m, figures)
		if !near {
			return told, false
		}
		told = append(told, stroke...)
		from, open = g.To, g.Kind != api.Close
		if g.Kind == api.Move {
			beginning = g.To
		}
	}
	return told, true
}

// check holds both calls against the edges that are wanted.
func check(t *testing.T, m api.Matrix, l []api.Segment, want []api.Edge) {
	t.Helper()
	if got, e := Edges(m, l...); e != api.OK || !slices.Equal(got, want) {
		t.Error(m, l, len(got), begin(got), e, "want", len(want), begin(want))
	}
	if got := slices.Collect(All(m, l...)); !slices.Equal(got, want) {
		t.Error(m, l, "all", len(got), begin(got), "want", len(want), begin(want))
	}
}

// checkWords checks edges that are wanted, and the words.
func checkWords(t *testing.T, m api.Matrix, l []api.Segment, want []api.Edge) {
	t.Helper()
	check(t, m, l, want)
	if words, near := wordsOutline(m, l); !near || !slices.Equal(words, want) {
		t.Error(m, l, "words", len(words), begin(words), near, "want", len(want), begin(want))
	}
}

// checkWrong holds both calls against an error, and the edges ahead of it.
func checkWrong(t *testing.T, m api.Matrix, l []api.Segment, wrong api.Errno, ahead []api.Edge) {
	t.Helper()
	if got, e := Edges(m, l...); e != wrong || len(got) != 0 {
		t.Error(m, l, len(got), begin(got), e, "want", wrong)
	}
	if got := slices.Collect(All(m, l...)); !slices.Equal(got, ahead) {
		t.Error(m, l, "all", len(got), begin(got), "want", len(ahead), begin(ahead))
	}
}

// checkFar is checkWrong of segments that go too far, and the words.
func checkFar(t *testing.T, m api.Matrix, l []api.Segment, ahead []api.Edge) {
	t.Helper()
	checkWrong(t, m, l, api.ErrRange, ahead)
	if words, near := wordsOutline(m, l); near || !slices.Equal(words, ahead) {
		t.Error(m, l, "words", len(words), begin(words), near, "want", len(ahead), begin(ahead))
	}
}

// begin is short enough to be told.
func begin(l []api.Edge) []api.Edge { return l[:min(len(l), 8)] }
