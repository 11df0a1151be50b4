package flat

import (
	"math"
	"testing"

	"pointillist/api"
)

// near is a 64th of a pixel.
const near = api.One / 64

// apart is how far along one axis a cubic may lie from its chord, four times over. Both go on evenly by t: the difference is
// 3t(1-t)(1-t) times a third of 3Q-2P-S, and 3tt(1-t) times a third of 3R-P-2S; the factors are 3/4 at most together.
func apart(p, q, r, s int64) int64 {
	a, b := 3*q-2*p-s, 3*r-p-2*s
	return max(a, -a, b, -b)
}

// checkNear holds a chord against its piece at once, and at some times.
func checkNear(t *testing.T, c api.Curve) {
	t.Helper()
	x, y := apart(c.P.X, c.Q.X, c.R.X, c.S.X), apart(c.P.Y, c.Q.Y, c.R.Y, c.S.Y)
	if math.Hypot(float64(x), float64(y)) > 4*near {
		t.Error("apart", c, x, y)
	}
	const n = 8
	for k := int64(0); k <= n; k++ {
		at := func(p, q, r, s int64) float64 { // n*n*n times the difference
			j := n - k
			return float64(j*j*j*p + 3*j*j*k*q + 3*j*k*k*r + k*k*k*s - n*n*(j*p+k*s))
		}
		if math.Hypot(at(c.P.X, c.Q.X, c.R.X, c.S.X), at(c.P.Y, c.Q.Y, c.R.Y, c.S.Y)) > n*n*n*near {
			t.Error("apart", c, k)
		}
	}
}

// checkJoin goes through pieces and chords side by side, and tells how many pieces there are.
func checkJoin(t *testing.T, c api.Curve) int {
	t.Helper()
	chords := Chords(c)
	at, n := c.P, 0
	for piece := range Pieces(c) {
		n++
		if piece.P != at {
			t.Fatal("doesn't join", c, at, piece)
		}
		if at = piece.S; at == piece.P {
			continue
		}
		if len(chords) == 0 || chords[0] != (api.Edge{P: piece.P, Q: piece.S}) {
			t.Fatal("no chord", c, piece, begin(chords))
		}
		chords = chords[1:]
	}
	if at != c.S || len(chords) != 0 {
		t.Fatal("ends elsewhere", c, at, begin(chords))
	}
	return n
}

// checkReach is all that is promised of curves whose numbers lie there.
func checkReach(t *testing.T, c api.Curve) int {
	t.Helper()
	n := checkJoin(t, c)
	if n > 1<<16 {
		t.Error("too many", c, n)
	}
	for piece := range Pieces(c) {
		if !wordsFlat(piece) {
			t.Error("not flat", c, piece, sums(piece))
		}
		checkNear(t, piece)
		if t.Failed() {
			t.FailNow()
		}
	}
	return n
}

func TestP12_3PiecesJoin(t *testing.T) {
	for _, c := range several() {
		checkReach(t, c)
	}
	for _, q := range []api.Point{{}, p(reach, -reach), p(bound, -bound)} {
		checkJoin(t, api.Curve{P: q, Q: q, R: q, S: q})
	}
	for _, c := range corners(bound)[:6] {
		checkJoin(t, c)
	}
}

// The sums are 2^35 at most, so 13 cuts nearly are enough, and 14 are.
func TestP12_3NumbersAtEitherBound(t *testing.T) {
	most := 0
	for _, size := range []int64{reach, reach - 1} {
		for _, c := range corners(size) {
			most = max(most, checkReach(t, c))
		}
	}
	if most < 8192 {
		t.Error("too few", most)
	}
}

// One number alone is at a bound or next to it, or all but one.
func TestP12_3EachNumberAtABound(t *testing.T) {
	for i := range 8 {
		for _, n := range []int64{reach, -reach, reach - 1, 1 - reach} {
			for _, rest := range []int64{0, -n} {
				l := [8]int64{rest, rest, rest, rest, rest, rest, rest, rest}
				l[i] = n
				checkReach(t, along(0, [4]int64(l[:4]), [4]int64(l[4:])))
			}
		}
	}
}

// Of both sums of just 512, in X and in Y, the chord lies farthest off.
func TestP12_3TheFarthestChords(t *testing.T) {
	for _, x := range []int64{512, -512} {
		for _, y := range []int64{512, -512} {
			c := along(0, [4]int64{0, 0, x, 3 * x}, [4]int64{0, 0, y, 3 * y})
			if n := checkReach(t, c); n != 1 {
				t.Error(c, n)
			}
			c = along(0, [4]int64{0, 0, 16 * x, 48 * x}, [4]int64{0, 0, 16 * y, 48 * y})
			if n := checkReach(t, c); n != 4 {
				t.Error(c, n)
			}
		}
	}
}

func TestP12_3HoldsOfMixedCurves(t *testing.T) {
	var mix mixer
	for i := range 300 {
		checkReach(t, mix.curve(1<<(6+i%28)))
	}
	for range 20 {
		checkReach(t, mix.curve(reach))
	}
}
