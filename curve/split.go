package curve

import (
	"pointillist/api"
	"pointillist/wide"
)

func corners(c api.Curve) [4]api.Point {
	return [4]api.Point{c.P, c.Q, c.R, c.S}
}

func through(l [4]api.Point) api.Curve {
	return api.Curve{P: l[0], Q: l[1], R: l[2], S: l[3]}
}

// split puts each two points that follow each other together, till one is left. What is outermost at each step makes the two
// parts: the first point, from the beginning on, and the last one, from the end on.
func split(l [4]api.Point, how func(a, b int64) int64) (first, second [4]api.Point) {
	for last := len(l) - 1; last >= 0; last-- {
		first[len(l)-1-last], second[last] = l[0], l[last]
		for i := range last {
			l[i] = put(l[i], l[i+1], how)
		}
	}
	return first, second
}

func put(p, q api.Point, how func(a, b int64) int64) api.Point {
	return api.Point{X: how(p.X, q.X), Y: how(p.Y, q.Y)}
}

// middle and third need no care for what doesn't fit: of numbers up to 2^40 all stays below 2^42.
func middle(a, b int64) int64 {
	n, _ := wide.Dot(a, 1, b, 1, 1)
	return n
}

// third is of one part of a, and two of b.
func third(a, b int64) int64 {
	n, _ := wide.MulDiv(a+2*b, 1, 3)
	return n
}
