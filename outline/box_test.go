package outline

import (
	"math"
	"slices"
	"testing"

	"pointillist/api"
)

func checkBox(t *testing.T, l []api.Edge, low, high api.Point) {
	t.Helper()
	want := slices.Clone(l)
	a, b, ok := Box(l)
	if a != low || b != high || !ok {
		t.Error(l, a, b, ok, "want", low, high)
	}
	if !slices.Equal(l, want) {
		t.Error("changed", l, want)
	}
}

func TestP13_2NoEdges(t *testing.T) {
	for _, l := range [][]api.Edge{nil, {}, edges(1, 2, 3, 4)[:0]} {
		if low, high, ok := Box(l); low != (api.Point{}) || high != (api.Point{}) || ok {
			t.Error(l, low, high, ok)
		}
	}
}

func TestP13_2OneEdge(t *testing.T) {
	checkBox(t, edges(1, 2, 3, 4), p(1, 2), p(3, 4))
	checkBox(t, edges(3, 4, 1, 2), p(1, 2), p(3, 4))
	checkBox(t, edges(1, 4, 3, 2), p(1, 2), p(3, 4))
	checkBox(t, edges(3, 2, 1, 4), p(1, 2), p(3, 4))
	checkBox(t, edges(-5, -6, -7, -8), p(-7, -8), p(-5, -6)) // neither 0 nor above
	checkBox(t, edges(5, 5, 5, 9), p(5, 5), p(5, 9))
	checkBox(t, edges(5, 5, 5, 5), p(5, 5), p(5, 5))
	checkBox(t, edges(math.MinInt64, math.MaxInt64, math.MaxInt64, math.MinInt64), p(math.MinInt64, math.MinInt64), p(math.MaxInt64, math.MaxInt64))
}

// Edges whose ends are alone, not those of others, hold each of the four numbers at each of their places.
func TestP13_2EachPlace(t *testing.T) {
	for sign := int64(-1); sign <= 1; sign++ {
		base := api.Edge{P: p(100*sign, 100*sign), Q: p(100*sign, 100*sign)}
		for at := range 3 {
			for field := range 4 {
				for _, by := range []int64{-7, 7} {
					l := []api.Edge{base, base, base}
					e := &l[at]
					*[]*int64{&e.P.X, &e.P.Y, &e.Q.X, &e.Q.Y}[field] += by
					low, high := base.P, base.P
					move := &[]*api.Point{&low, &high}[(by+7)/14].X
					if field%2 == 1 {
						move = &[]*api.Point{&low, &high}[(by+7)/14].Y
					}
					*move += by
					checkBox(t, l, low, high)
				}
			}
		}
	}
}

func TestP13_2OfAnOutline(t *testing.T) {
	l, _ := Edges(same, moveTo(-9, 5), lineTo(4, -20), lineTo(3, 30), moveTo(6, 6), lineTo(8, 8))
	checkBox(t, l, p(-9, -20), p(8, 30))
	l, _ = Edges(same, moveTo(one, 0), arcTo(one, one, 0, false, true, p(0, one)))
	checkBox(t, l, p(0, 0), p(one, one))
}
