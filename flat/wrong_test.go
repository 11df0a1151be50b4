package flat

import (
	"math"
	"testing"

	"pointillist/api"
)

// Of curves that aren't right nothing is promised; but they end, and don't panic.
func TestR1NothingPanics(t *testing.T) {
	for _, n := range []int64{bound + 1, 1 << 50, 1 << 62, math.MaxInt64} {
		for _, c := range []api.Curve{
			{P: p(n, 0)}, {Q: p(0, -n)}, {P: p(n, n), Q: p(n, n), R: p(n, n), S: p(n, n)}, {P: p(-n-1, n), Q: p(n, -n-1), R: p(-n-1, n), S: p(n, -n-1)},
		} {
			if n := Count(c); n < 1 || n > 4096 {
				t.Error(c, n)
			}
			pieces := 0
			for range Points(c) {
				pieces++
			}
			if pieces < 1 || pieces > 1<<20 {
				t.Error(c, pieces)
			}
			if l := told(Pieces(c), 100); len(l) != min(pieces, 100) {
				t.Error(c, len(l), pieces)
			}
		}
	}
	if l := Chords(api.Curve{P: p(math.MinInt64, math.MaxInt64), Q: p(math.MaxInt64, 0)}); len(l) > 1<<20 {
		t.Error(len(l))
	}
}

func TestR1NoIteratorIsNil(t *testing.T) {
	for _, c := range append(several(), api.Curve{}, api.Curve{P: p(math.MinInt64, math.MaxInt64)}) {
		if Pieces(c) == nil || Points(c) == nil {
			t.Error("nil", c)
		}
	}
}
