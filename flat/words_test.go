package flat

import (
	"slices"
	"testing"

	"pointillist/api"
)

const (
	bound = 1 << 40 // layer 11's
	reach = 1 << 33 // P12.3's
)

func p(x, y int64) api.Point { return api.Point{X: x, Y: y} }

// along is a curve whose numbers on one axis are told, 0 is X, 1 is Y, and on the other one those of rest.
func along(axis int, l, rest [4]int64) api.Curve {
	if axis == 1 {
		l, rest = rest, l
	}
	return api.Curve{P: p(l[0], rest[0]), Q: p(l[1], rest[1]), R: p(l[2], rest[2]), S: p(l[3], rest[3])}
}

func back(c api.Curve) api.Curve { return api.Curve{P: c.S, Q: c.R, R: c.Q, S: c.P} }

// backwards are the same pieces, gone through from the end.
func backwards(l []api.Curve) []api.Curve {
	var other []api.Curve
	for _, c := range slices.Backward(l) {
		other = append(other, back(c))
	}
	return other
}

// half is the nearest whole number to half the sum, of two the greater one: a shift rounds down. All sums here fit.
func half(a, b int64) int64 { return (a + b + 1) >> 1 }

func middle(a, b api.Point) api.Point { return p(half(a.X, b.X), half(a.Y, b.Y)) }

// wordsCut is layer 11's words.
func wordsCut(c api.Curve) (api.Curve, api.Curve) {
	a, b, m := middle(c.P, c.Q), middle(c.Q, c.R), middle(c.R, c.S)
	d, e := middle(a, b), middle(b, m)
	f := middle(d, e)
	return api.Curve{P: c.P, Q: a, R: d, S: f}, api.Curve{P: f, Q: e, R: m, S: c.S}
}

// sums are the four that tell whether a curve is flat.
func sums(c api.Curve) [4]int64 {
	return [4]int64{
		c.P.X - 2*c.Q.X + c.R.X, c.P.Y - 2*c.Q.Y + c.R.Y, c.Q.X - 2*c.R.X + c.S.X, c.Q.Y - 2*c.R.Y + c.S.Y,
	}
}

// wordsFlat is layer 11's words.
func wordsFlat(c api.Curve) bool {
	for _, n := range sums(c) {
		if n < -512 || n > 512 {
			return false
		}
	}
	return true
}

// grown is a piece, and how many cuts it came of.
type grown struct {
	piece api.Curve
	cuts  int
}

// wordsGrown is the chapter's words, of a curve that came of so many cuts.
func wordsGrown(c api.Curve, cuts int, l []grown) []grown {
	if wordsFlat(c) || cuts == 20 {
		return append(l, grown{c, cuts})
	}
	first, second := wordsCut(c)
	return wordsGrown(second, cuts+1, wordsGrown(first, cuts+1, l))
}

func wordsPieces(c api.Curve) []api.Curve {
	var l []api.Curve
	for _, g := range wordsGrown(c, 0, nil) {
		l = append(l, g.piece)
	}
	return l
}

func wordsChords(c api.Curve, ends []api.Point) []api.Edge {
	var l []api.Edge
	at := c.P
	for _, end := range ends {
		l = append(l, api.Edge{P: at, Q: end})
		at = end
	}
	return slices.DeleteFunc(l, func(e api.Edge) bool { return e.P == e.Q })
}

// checkPieces holds each call against the pieces that are wanted.
func checkPieces(t *testing.T, c api.Curve, want ...api.Curve) {
	t.Helper()
	if got := slices.Collect(Pieces(c)); !slices.Equal(got, want) {
		t.Fatalf("%v: %d pieces %v, want %d %v", c, len(got), begin(got), len(want), begin(want))
	}
	var ends []api.Point
	for _, piece := range want {
		ends = append(ends, piece.S)
	}
	if got := slices.Collect(Points(c)); !slices.Equal(got, ends) {
		t.Fatalf("%v: points %v, want %v", c, begin(got), begin(ends))
	}
	if got, chords := Chords(c), wordsChords(c, ends); !slices.Equal(got, chords) {
		t.Fatalf("%v: chords %v, want %v", c, begin(got), begin(chords))
	}
	if n := Count(c); n != min(len(want), 4096) {
		t.Fatalf("%v: count %d, want %d", c, n, min(len(want), 4096))
	}
}

// checkWords holds each call against the chapter's words, and tells the pieces.
func checkWords(t *testing.T, c api.Curve) []grown {
	t.Helper()
	l := wordsGrown(c, 0, nil)
	pieces := make([]api.Curve, len(l))
	for i, g := range l {
		pieces[i] = g.piece
	}
	checkPieces(t, c, pieces...)
	return l
}

// checkBoth checks pieces that are wanted, and the words.
func checkBoth(t *testing.T, c api.Curve, want ...api.Curve) {
	t.Helper()
	checkPieces(t, c, want...)
	checkWords(t, c)
}

// begin is short enough to be told.
func begin[T any](l []T) []T { return l[:min(len(l), 8)] }

func deepestOf(l []grown) int {
	deepest := 0
	for _, g := range l {
		deepest = max(deepest, g.cuts)
	}
	return deepest
}

// mixer tells numbers by a rule, the same ones each time.
type mixer uint64

func (m *mixer) next() uint64 {
	*m = *m*6364136223846793005 + 1442695040888963407
	return uint64(*m ^ *m>>29)
}

// number is one from -size to size, at either of these now and then.
func (m *mixer) number(size int64) int64 {
	switch m.next() >> 7 % 8 {
	case 0:
		return size
	case 1:
		return -size
	}
	return int64(m.next()>>3%uint64(2*size+1)) - size
}

func (m *mixer) curve(size int64) api.Curve {
	var l [8]int64
	for i := range l {
		l[i] = m.number(size)
	}
	return along(0, [4]int64(l[:4]), [4]int64(l[4:]))
}

// bowed is a curve somewhere, along which the sums are size at most, but for one that is size.
func (m *mixer) bowed(size int64) api.Curve {
	var l [2][4]int64
	for axis := range l {
		a, b := m.number(size), m.number(size)
		at, step := m.number(1<<38), m.number(1<<34)
		l[axis] = [4]int64{at, at + step, at + 2*step + a, at + 3*step + 2*a + b}
	}
	return along(0, l[0], l[1])
}
