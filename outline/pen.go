package outline

import (
	"iter"

	"pointillist/affine"
	"pointillist/api"
	"pointillist/arc"
	"pointillist/curve"
	"pointillist/flat"
	"pointillist/norm"
)

// strokes tells the edges of each segment together, and at last those that close the end: none of a segment's may be told
// ahead of an error of the same one. Whoever is told an error has to leave.
func strokes(m api.Matrix, l []api.Segment) iter.Seq2[[]api.Edge, api.Errno] {
	return func(yield func([]api.Edge, api.Errno) bool) {
		if !affine.Right(m) || !norm.Right(l...) {
			yield(nil, api.ErrArg)
			return
		}
		p := pen{matrix: m}
		for _, g := range l {
			if !yield(p.draw(g)) {
				return
			}
		}
		yield(p.finish())
	}
}

// pen is where the segments ahead have come to. Its points aren't taken: arcs, and what is made of three points, need them so,
// and a point of which no edge comes goes too far only where it is taken.
type pen struct {
	matrix    api.Matrix
	point     api.Point
	beginning api.Point
	open      bool
}

func (p *pen) draw(g api.Segment) (stroke []api.Edge, e api.Errno) {
	switch g.Kind {
	case api.Move:
		stroke, e = p.finish()
		p.beginning, p.open = g.To, true
	case api.Line:
		stroke, e = p.line(g.To)
	case api.Cubic:
		stroke, e = p.cubics(api.Curve{P: p.point, Q: g.C1, R: g.C2, S: g.To})
	case api.Quad:
		stroke, e = p.cubics(curve.Elevate(p.point, g.C1, g.To))
	case api.Arc:
		stroke, e = p.arc(g)
	case api.Close:
		stroke, e = p.finish()
	}
	p.point = g.To
	return stroke, e
}

// finish is what a Move, a Close and the end have in common.
func (p *pen) finish() ([]api.Edge, api.Errno) {
	if !p.open {
		return nil, api.OK
	}
	p.open = false
	return p.line(p.beginning)
}

func (p *pen) line(to api.Point) ([]api.Edge, api.Errno) {
	l, e := affine.All(p.matrix, p.point, to)
	if e != api.OK || l[0] == l[1] {
		return nil, e
	}
	return []api.Edge{{P: l[0], Q: l[1]}}, api.OK
}

// cubics needs no care for chords that go nowhere: layer 12 leaves them out.
func (p *pen) cubics(l ...api.Curve) ([]api.Edge, api.Errno) {
	var stroke []api.Edge
	for _, c := range l {
		t, e := affine.All(p.matrix, c.P, c.Q, c.R, c.S)
		if e != api.OK {
			return nil, e
		}
		stroke = append(stroke, flat.Chords(api.Curve{P: t[0], Q: t[1], R: t[2], S: t[3]})...)
	}
	return stroke, api.OK
}

func (p *pen) arc(g api.Segment) ([]api.Edge, api.Errno) {
	switch arc.Shape(p.point, g) {
	case arc.Nothing:
		return nil, api.OK
	case arc.Straight:
		return p.line(g.To)
	}
	l, e := arc.Curves(p.point, g)
	if e != api.OK {
		return nil, e
	}
	return p.cubics(l...)
}
