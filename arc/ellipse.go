package arc

import (
	"iter"

	"pointillist/api"
	"pointillist/vec"
)

const (
	most  = 4  // so many whole quarters at most, which is all the way round
	slack = 64 // a direction whose Dot with another is 1 but for this has reached it, but for rounding
)

// ellipse is a circle of radius 1 about centre, stretched by the radii, turned, and moved to the middle between P and To; a
// curved arc goes on it from the first direction to the last one, the way round that quarters of that sign turn.
type ellipse struct {
	cos, sin       int64
	rx, ry         int64
	centre, middle api.Point
	first, last    api.Point
	way            int
	ahead          int // so many quarters are gone in any case
}

// ellipseOf is of a curved arc. No direction is lost: neither end lies on the centre.
func ellipseOf(p api.Point, s api.Segment) ellipse {
	c := chordOf(p, s)
	e := ellipse{cos: c.cos, sin: c.sin, rx: s.Rx, ry: s.Ry, middle: half(p, s.To), way: -1}
	if s.Sweep {
		e.way = 1
	}
	if s.Large {
		e.ahead = 2
	}
	if c.l > api.Unit {
		e.rx, e.ry = scaled(s.Rx, c.l), scaled(s.Ry, c.l)
		c.a, c.b = share(c.a, api.Unit, c.l), share(c.b, api.Unit, c.l)
	} else {
		e.centre = c.centre(s.Large == s.Sweep)
	}
	e.first, _ = vec.Of(c.a-e.centre.X, c.b-e.centre.Y)
	e.last, _ = vec.Of(-c.a-e.centre.X, -c.b-e.centre.Y)
	return e
}

func (e ellipse) pieces() iter.Seq2[api.Point, api.Point] {
	return func(yield func(w, z api.Point) bool) {
		// Begun within the literal, so that each going through begins anew.
		w := e.first
		for made := 0; made < most && (made < e.ahead || !arrived(w, e.last, e.way)); made++ {
			z := vec.Turn(w, e.way)
			if !yield(w, z) {
				return
			}
			w = z
		}
		yield(w, e.last)
	}
}

// arrived asks whether one piece, of a quarter at most, is enough from w on.
func arrived(w, last api.Point, way int) bool {
	along := vec.Dot(w, last)
	return along >= api.Unit-slack || int64(way)*vec.Cross(w, last) >= 0 && along >= 0
}

func (e ellipse) cubic(w, z api.Point) api.Curve {
	k := vec.Handle(w, z)
	out, in := handle(w, k, e.way), handle(z, k, e.way)
	return api.Curve{
		P: e.point(w),
		Q: e.point(api.Point{X: w.X + out.X, Y: w.Y + out.Y}),
		R: e.point(api.Point{X: z.X - in.X, Y: z.Y - in.Y}),
		S: e.point(z),
	}
}

func handle(w api.Point, k int64, way int) api.Point {
	d := vec.Turn(w, way)
	return api.Point{X: scaled(k, d.X), Y: scaled(k, d.Y)}
}

func (e ellipse) point(w api.Point) api.Point {
	g, h := scaled(e.rx, e.centre.X+w.X), scaled(e.ry, e.centre.Y+w.Y)
	return api.Point{
		X: dot(e.cos, g, -e.sin, h, places) + e.middle.X,
		Y: dot(e.sin, g, e.cos, h, places) + e.middle.Y,
	}
}

func half(p, q api.Point) api.Point {
	return api.Point{X: dot(p.X, 1, q.X, 1, 1), Y: dot(p.Y, 1, q.Y, 1, 1)}
}
