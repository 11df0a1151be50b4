package arc

import (
	"pointillist/api"
	"pointillist/root"
	"pointillist/trig"
	"pointillist/wide"
)

// places are those behind the point of directions, of sines, and of what is held against a radius.
const places = 30

// chord is half the way from To to P, on the ellipse's own axes, each part held against the radius there; l is its length.
type chord struct {
	cos, sin int64
	a, b, l  int64
}

// chordOf tells anything of radii that are too short: those have to be looked at ahead.
func chordOf(p api.Point, s api.Segment) chord {
	sin, cos := trig.Both(s.Turn)
	dx, dy := p.X-s.To.X, p.Y-s.To.Y
	u := dot(cos, dx, sin, dy, places+1)
	v := dot(cos, dy, -sin, dx, places+1)
	a, b := share(u, api.Unit, s.Rx), share(v, api.Unit, s.Ry)
	return chord{cos: cos, sin: sin, a: a, b: b, l: int64(root.Hypot(a, b))}
}

// centre is of a chord that isn't longer than 1: how far from its middle, and straight away from it, the centre lies. Either
// number is divided ahead of getting its sign, since a half goes up.
func (c chord) centre(alike bool) api.Point {
	m := int64(root.Floor(uint64((api.Unit - c.l) * (api.Unit + c.l))))
	x, y := share(c.b, m, c.l), share(c.a, m, c.l)
	if alike {
		return api.Point{X: -x, Y: y}
	}
	return api.Point{X: x, Y: -y}
}

// dot, share and scaled need no care for what doesn't fit: of numbers within the bound, and radii that aren't too short, all
// stays below 2^60.
func dot(a, b, c, d int64, s int) int64 {
	n, _ := wide.Dot(a, b, c, d, s)
	return n
}

func share(n, by, of int64) int64 {
	n, _ = wide.MulDiv(n, by, of)
	return n
}

func scaled(n, by int64) int64 {
	n, _ = wide.MulShift(n, by, places)
	return n
}
