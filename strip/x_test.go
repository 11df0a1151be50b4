package strip

import (
	"testing"

	"pointillist/api"
)

func checkX(t *testing.T, e api.Edge, y, want int64) {
	t.Helper()
	if got := X(e, y); got != want {
		t.Error(e, y, got, "want", want)
	}
	if words := wordsX(e, y); words != want {
		t.Error(e, y, "words", words, "want", want)
	}
}

func TestP15_1XAtBothEnds(t *testing.T) {
	for _, e := range []api.Edge{
		edge(0, 0, 2*one, 2*one), edge(5, -3, -8, 9), edge(5, 9, -8, -3), edge(-5, 9, 8, -3), edge(7, 1, 7, 2),
		edge(-bound, -bound, bound, bound), edge(-bound, bound, bound, -bound), edge(bound, -bound, -bound, -bound+1),
		edge(bound, 0, bound-1, bound), edge(-bound, 3, -bound, -bound),
	} {
		checkX(t, e, e.P.Y, e.P.X)
		checkX(t, e, e.Q.Y, e.Q.X)
		checkX(t, turned(e), e.P.Y, e.P.X)
		checkX(t, turned(e), e.Q.Y, e.Q.X)
	}
}

func TestP15_1XHalfWay(t *testing.T) {
	for _, c := range []struct {
		e       api.Edge
		y, want int64
	}{
		{edge(0, 0, 2*one, 2*one), one, one},
		{edge(0, 2*one, 2*one, 0), one, one},
		{edge(100, 0, -300, 8), 4, -100},
		{edge(-300, 8, 100, 0), 4, -100},
		{edge(-40, -6, -20, -2), -4, -30},
		{edge(-bound, -bound, bound, bound), 0, 0},
		{edge(bound, -bound, -bound, bound), 0, 0},
		{edge(bound, -bound, 0, bound), 0, bound / 2},
		{edge(-bound, bound, 0, -bound), 0, -bound / 2},
	} {
		checkX(t, c.e, c.y, c.want)
	}
}

// A quarter goes to the lesser one, three quarters to the greater one, and a half to the greater one, on both sides of 0,
// whichever way the edge goes.
func TestP15_1XBetweenTwoNumbers(t *testing.T) {
	for _, left := range []int64{0, 5, -1, -2, -9, bound - 1, -bound} {
		rising := edge(left, 10, left+1, 14)
		falling := edge(left+1, 10, left, 14)
		for i, want := range []int64{left, left, left + 1, left + 1, left + 1} {
			checkX(t, rising, 10+int64(i), want)
			checkX(t, turned(rising), 10+int64(i), want)
			checkX(t, falling, 14-int64(i), want)
			checkX(t, turned(falling), 14-int64(i), want)
		}
	}
}

func TestP15_1XThirds(t *testing.T) {
	e := edge(0, 0, one, 3*one)
	checkX(t, e, one, 21845)
	checkX(t, e, 2*one, 43691)
	checkX(t, turned(e), one, 21845)
	checkX(t, turned(e), 2*one, 43691)
	e = edge(0, 0, -one, 3*one)
	checkX(t, e, one, -21845)
	checkX(t, e, 2*one, -43691)
	checkX(t, turned(e), one, -21845)
	checkX(t, turned(e), 2*one, -43691)
	e = edge(-20000, -one, -20000+one, -4*one)
	checkX(t, e, -2*one, 1845)
	checkX(t, e, -3*one, 23691)
}

func TestP15_1XOfUprightEdges(t *testing.T) {
	for _, x := range []int64{0, 1, -1, 98304, -98304, bound, -bound} {
		for _, y := range []int64{-bound, -one - 1, -1, 0, 1, 77777, bound} {
			checkX(t, edge(x, -bound, x, bound), y, x)
			checkX(t, edge(x, bound, x, -bound), y, x)
		}
	}
}

// The product is of 70 bits here; one short of an end the X is not yet there, but goes to the nearest number.
func TestP15_1XOfGreatNumbers(t *testing.T) {
	e := edge(-bound, -bound, bound, bound-1)
	checkX(t, e, -bound+1, -bound+1)
	checkX(t, e, bound-2, bound-1)
	checkX(t, e, -1, -1)
	checkX(t, e, 0, 1)
	e = edge(-bound, -bound, bound, bound)
	for _, y := range []int64{-bound + 1, -12345678901, -1, 1, 3, 98765432109 % bound, bound - 1} {
		checkX(t, e, y, y)
		checkX(t, turned(e), y, y)
		checkX(t, edge(bound, -bound, -bound, bound), y, -y)
		checkX(t, edge(-bound, bound, bound, -bound), y, -y)
	}
	checkX(t, edge(-bound, 0, bound, 2), 1, 0)
	checkX(t, edge(bound, 0, -bound+1, 2), 1, 1)
	checkX(t, edge(0, -bound, 1, bound), 0, 1)
	checkX(t, edge(0, -bound, 1, bound), -1, 0)
	checkX(t, edge(0, -bound, -1, bound), 0, 0)
	checkX(t, edge(0, -bound, -1, bound), 1, -1)
}

// between are heights of an edge: its ends, their neighbours, and some on the way.
func between(e api.Edge) (l []int64) {
	low, high := min(e.P.Y, e.Q.Y), max(e.P.Y, e.Q.Y)
	l = append(l, low, high, low+1, high-1)
	for k := range int64(8) {
		l = append(l, low+(high-low)*k/8, low+(high-low)/8*k+1)
	}
	for i := range l {
		l[i] = min(max(l[i], low), high)
	}
	return l
}

func TestP15_1XByTheWords(t *testing.T) {
	for _, xs := range across() {
		for _, a := range heights() {
			for _, b := range heights() {
				if a == b {
					continue
				}
				e := edge(xs[0], a, xs[1], b)
				for _, y := range between(e) {
					checkX(t, e, y, wordsX(e, y))
				}
			}
		}
	}
}
