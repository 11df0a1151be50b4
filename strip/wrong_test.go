package strip

import (
	"math"
	"testing"

	"pointillist/api"
)

// Of no row lies more than one height between ends of one Y.
func TestP15_1LevelEdgesHaveNoStrips(t *testing.T) {
	for _, y := range []int64{math.MinInt64, -bound, -one, -1, 0, 1, one / 2, one, one + 5, 4 * one, bound, math.MaxInt64} {
		for _, height := range []int{-1, 0, 1, 2, 4096} {
			for _, e := range []api.Edge{edge(0, y, 0, y), edge(-5, y, 9, y), edge(bound, y, -bound, y)} {
				checkRows(t, e, height, 0, 0, false)
				if l := collect(All(e, height)); l != nil {
					t.Error(e, height, l)
				}
			}
		}
	}
}

func TestP15_1PicturesBelowNothingHaveNoStrips(t *testing.T) {
	for _, height := range []int{math.MinInt64, math.MinInt64 + 1, -4096, -1} {
		for _, e := range []api.Edge{edge(0, -bound, 3, bound), edge(0, 0, 3, one), edge(0, 9*one, 3, -9*one), edge(0, -9*one, 3, -8*one)} {
			checkRows(t, e, height, 0, 0, false)
			if l := collect(All(e, height)); l != nil {
				t.Error(e, height, l)
			}
		}
	}
}

// Beyond the chapter's bounds nothing is promised of what is told, but no call panics, and each ends.
func TestR1NoPanicBeyondTheBounds(t *testing.T) {
	far := []int64{math.MinInt64, math.MinInt64 + 1, -1 << 62, -bound - 1, -1, 0, 1, bound + 1, 1 << 62, math.MaxInt64 - 1, math.MaxInt64}
	for _, x := range far {
		for _, a := range far {
			for _, b := range far {
				e := edge(x, a, -x, b)
				for _, y := range far {
					X(e, y)
				}
				for _, height := range []int{math.MinInt64, -1, 0, 1, 3} {
					Rows(e, height)
					collect(All(e, height))
				}
				for _, height := range []int{4096, 1 << 40, math.MaxInt64} {
					Rows(e, height)
					told(All(e, height), 3)
				}
			}
		}
	}
}

// Heights that lie beyond the ends, above them or below them.
func TestR1NoPanicOfHeightsBeyondTheEnds(t *testing.T) {
	for _, e := range several()[:200] {
		for _, y := range []int64{math.MinInt64, -bound - 1, -bound, 0, bound, bound + 1, math.MaxInt64} {
			X(e, y)
		}
	}
}

// Taller pictures than may be have their rows all the same, which no edge within the bounds goes beyond.
func TestP15_1TallerPicturesThanMayBe(t *testing.T) {
	checkRows(t, edge(0, 0, 0, bound), math.MaxInt64, 0, bound/one-1, true)
	checkRows(t, edge(0, bound, 0, -bound), 1<<20, 0, bound/one-1, true)
	checkRows(t, edge(0, 4095*one, 0, 4098*one), 5000, 4095, 4097, true)
}
