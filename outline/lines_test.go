package outline

import (
	"testing"

	"pointillist/api"
)

func TestP13_1Example(t *testing.T) {
	checkWords(t, same, list(moveTo(0, 0), lineTo(one, 0), lineTo(0, one)), edges(0, 0, one, 0, 0, one, 0, 0))
}

func TestP13_1NoEdges(t *testing.T) {
	for _, l := range [][]api.Segment{
		nil, {}, {moveTo(0, 0)}, {moveTo(5, 6)}, {moveTo(5, 6), closed(5, 6)}, {moveTo(1, 2), moveTo(3, 4)},
		{moveTo(1, 2), moveTo(1, 2), moveTo(3, 4), closed(3, 4), moveTo(-5, 6)},
		{moveTo(1, 2), closed(1, 2), moveTo(1, 2), closed(1, 2)},
	} {
		for _, m := range []api.Matrix{same, turn, mirror, point, skew, {}} {
			checkWords(t, m, l, nil)
		}
	}
}

func TestP13_1Moves(t *testing.T) {
	triangle := edges(1, 2, 3, 4, 5, 0, 1, 2)
	for _, c := range []struct {
		l    []api.Segment
		want []api.Edge
	}{
		{list(moveTo(1, 2), lineTo(3, 4)), edges(1, 2, 3, 4, 1, 2)},
		{list(moveTo(0, 0), moveTo(1, 2), lineTo(3, 4)), edges(1, 2, 3, 4, 1, 2)},
		{list(moveTo(1, 2), lineTo(3, 4), lineTo(5, 0)), triangle},
		{list(moveTo(1, 2), lineTo(3, 4), lineTo(5, 0), moveTo(9, 9)), triangle},
		{list(moveTo(1, 2), lineTo(3, 4), lineTo(5, 0), moveTo(9, 9), moveTo(8, 8)), triangle},
		{list(moveTo(1, 2), lineTo(3, 4), lineTo(5, 0), lineTo(1, 2), moveTo(9, 9)), triangle}, // closes by itself
		{list(moveTo(1, 2), lineTo(3, 4), lineTo(5, 0), moveTo(5, 0), lineTo(6, 6)), append(triangle, edges(5, 0, 6, 6, 5, 0)...)},
		{list(moveTo(1, 2), lineTo(3, 4), lineTo(5, 0), moveTo(7, 7), lineTo(6, 6)), append(triangle, edges(7, 7, 6, 6, 7, 7)...)},
	} {
		checkWords(t, same, c.l, c.want)
	}
}

// Behind a Close none is open: the Move there closes nothing, wherever the point is.
func TestP13_1Closes(t *testing.T) {
	for _, c := range []struct {
		l    []api.Segment
		want [][]api.Edge
	}{
		{list(moveTo(1, 2), lineTo(3, 4), closed(1, 2)), [][]api.Edge{edges(1, 2, 3, 4, 1, 2)}},
		{list(moveTo(1, 2), lineTo(3, 4), lineTo(5, 0), closed(1, 2)), [][]api.Edge{edges(1, 2, 3, 4, 5, 0, 1, 2)}},
		{list(moveTo(1, 2), lineTo(3, 4), lineTo(1, 2), closed(1, 2)), [][]api.Edge{edges(1, 2, 3, 4, 1, 2)}},
		{list(moveTo(1, 2), lineTo(3, 4), closed(1, 2), moveTo(7, 8)), [][]api.Edge{edges(1, 2, 3, 4, 1, 2)}},
		{list(moveTo(1, 2), lineTo(3, 4), closed(1, 2), moveTo(7, 8), lineTo(5, 5)),
			[][]api.Edge{edges(1, 2, 3, 4, 1, 2), edges(7, 8, 5, 5, 7, 8)}},
		{list(moveTo(1, 2), lineTo(3, 4), closed(1, 2), moveTo(1, 2), lineTo(5, 5), closed(1, 2)),
			[][]api.Edge{edges(1, 2, 3, 4, 1, 2), edges(1, 2, 5, 5, 1, 2)}},
		{list(moveTo(1, 2), closed(1, 2), moveTo(7, 8), lineTo(5, 5), moveTo(3, 3), lineTo(4, 4), closed(3, 3)),
			[][]api.Edge{edges(7, 8, 5, 5, 7, 8), edges(3, 3, 4, 4, 3, 3)}},
	} {
		var want []api.Edge
		for _, l := range c.want {
			want = append(want, l...)
		}
		checkWords(t, same, c.l, want)
	}
}

func TestP13_1LinesThatGoNowhere(t *testing.T) {
	for _, c := range []struct {
		l    []api.Segment
		want []api.Edge
	}{
		{list(moveTo(0, 0), lineTo(0, 0)), nil},
		{list(moveTo(5, 5), lineTo(5, 5), closed(5, 5)), nil},
		{list(moveTo(5, 5), lineTo(5, 5), lineTo(6, 5), lineTo(6, 5)), edges(5, 5, 6, 5, 5, 5)},
		{list(moveTo(5, 5), lineTo(5, 6), lineTo(5, 6), closed(5, 5)), edges(5, 5, 5, 6, 5, 5)}, // the same X, unlike Ys
		{list(moveTo(5, 5), lineTo(6, 5), lineTo(5, 5), lineTo(5, 5)), edges(5, 5, 6, 5, 5, 5)}, // the same Y, unlike Xs
	} {
		checkWords(t, same, c.l, c.want)
	}
}

// Numbers from -2 to 2 are nearest to 0, to 1 and to -1 quarters: 2 is a half of 4, which goes up.
func TestP13_1PointsThatAreTakenToOne(t *testing.T) {
	quarter := api.Matrix{A: one / 4, D: one / 4}
	checkWords(t, quarter, list(moveTo(0, 0), lineTo(1, 1), lineTo(-2, -2), lineTo(-1, 1)), nil)
	checkWords(t, quarter, list(moveTo(0, 0), lineTo(1, 1), lineTo(2, 1), lineTo(-3, 1)), edges(0, 0, 1, 0, -1, 0, 0, 0))
	checkWords(t, quarter, list(moveTo(2, 2), lineTo(9, 9), lineTo(5, 5)), edges(1, 1, 2, 2, 1, 1)) // what closes goes nowhere
	checkWords(t, quarter, list(moveTo(2, 2), lineTo(9, 9), lineTo(5, 5), closed(2, 2)), edges(1, 1, 2, 2, 1, 1))
	checkWords(t, quarter, list(moveTo(2, 2), lineTo(9, 9), lineTo(5, 5), moveTo(0, 0)), edges(1, 1, 2, 2, 1, 1))
	flatX := api.Matrix{D: one, E: 3}
	checkWords(t, flatX, list(moveTo(0, 0), lineTo(100, 0), lineTo(100, 50), closed(0, 0)), edges(3, 0, 3, 50, 3, 0))
}

func TestP13_1Matrices(t *testing.T) {
	l := list(moveTo(10, 20), lineTo(30, 20), lineTo(30, 50), closed(10, 20))
	for _, c := range []struct {
		m    api.Matrix
		want []api.Edge
	}{
		{same, edges(10, 20, 30, 20, 30, 50, 10, 20)},
		{turn, edges(-20, 10, -20, 30, -50, 30, -20, 10)},
		{mirror, edges(90, 20, 70, 20, 70, 50, 90, 20)},
		{point, nil},
		{api.Matrix{}, nil},
		{api.Matrix{A: 2 * one, D: 3 * one, E: 1, F: -1}, edges(21, 59, 61, 59, 61, 149, 21, 59)},
		{api.Matrix{A: one, B: one, C: one, D: one}, edges(30, 30, 50, 50, 80, 80, 30, 30)},
		{api.Matrix{A: one, D: one, E: most - 30, F: -most}, edges(most-20, 20-most, most, 20-most, most, 50-most, most-20, 20-most)},
	} {
		checkWords(t, c.m, l, c.want)
	}
}

func TestP13_1AtTheBound(t *testing.T) {
	checkWords(t, same, list(moveTo(most, -most), lineTo(-most, most)), edges(most, -most, -most, most, most, -most))
	checkWords(t, turn, list(moveTo(most, -most), lineTo(-most, most)), edges(most, most, -most, -most, most, most))
}
