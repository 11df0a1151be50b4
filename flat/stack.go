package flat

import (
	"pointillist/api"
	"pointillist/curve"
)

// deepest is how many cuts, one behind the other, a piece may come of.
const deepest = 20

// branch is a curve that came of so many cuts.
type branch struct {
	curve api.Curve
	cuts  int
}

func (b branch) isPiece() bool {
	return b.cuts == deepest || curve.Flat(b.curve)
}

func (b branch) cut() (first, second branch) {
	p, q := curve.Cut(b.curve)
	return branch{p, b.cuts + 1}, branch{q, b.cuts + 1}
}

// stack holds what still waits to be told or cut. It has room for all: of each number of cuts one second part waits at most,
// and above them a first part.
type stack struct {
	waiting [deepest + 1]branch
	n       int
}

func (s *stack) push(b branch) {
	s.waiting[s.n] = b
	s.n++
}

func (s *stack) pop() branch {
	s.n--
	return s.waiting[s.n]
}
