package affine

import (
	"slices"
	"testing"

	"pointillist/api"
)

// applied is what is to come of one point by one matrix.
type applied struct {
	m api.Matrix
	p api.Point
	q api.Point
	e api.Errno
}

// check holds Apply, and All of that point alone, and amidst others, against it.
func check(t *testing.T, l ...applied) {
	t.Helper()
	for _, c := range l {
		if q, e := Apply(c.m, c.p); q != c.q || e != c.e {
			t.Error(c, q, e)
		}
		var want []api.Point
		if c.e == api.OK {
			want = []api.Point{c.q}
		}
		if g, e := All(c.m, c.p); !slices.Equal(g, want) || e != c.e {
			t.Error(c, g, e)
		}
	}
}

func TestP8_1Same(t *testing.T) {
	if Same() != (api.Matrix{A: 1 << 16, D: 1 << 16}) {
		t.Error(Same())
	}
	if !Right(Same()) {
		t.Error("right")
	}
}

func TestP8_1RightNumberByNumber(t *testing.T) {
	for i := range 6 {
		for _, others := range []int64{0, most, least} {
			m := api.Matrix{A: others, B: others, C: others, D: others, E: others, F: others}
			if !Right(m) {
				t.Error(m)
			}
			for _, n := range edges() {
				*numbersOf(&m)[i] = n
				if !Right(m) {
					t.Error(m)
				}
			}
			for _, n := range beyond() {
				*numbersOf(&m)[i] = n
				if Right(m) {
					t.Error(m)
				}
			}
		}
	}
}

func TestP8_1RightOfSeveralWrongOnes(t *testing.T) {
	for _, n := range beyond() {
		if Right(api.Matrix{A: n, B: n, C: n, D: n, E: n, F: n}) || Right(api.Matrix{A: n, C: -n}) || Right(api.Matrix{E: n, F: -n}) {
			t.Error(n)
		}
	}
}

func TestP8_1ApplyTakesEachNumberItsWay(t *testing.T) {
	q := p(3*one, 5*one)
	check(t,
		applied{api.Matrix{A: 2 * one}, q, p(6*one, 0), api.OK},
		applied{api.Matrix{B: 2 * one}, q, p(0, 6*one), api.OK},
		applied{api.Matrix{C: 2 * one}, q, p(10*one, 0), api.OK},
		applied{api.Matrix{D: 2 * one}, q, p(0, 10*one), api.OK},
		applied{api.Matrix{E: 7}, q, p(7, 0), api.OK},
		applied{api.Matrix{F: 7}, q, p(0, 7), api.OK},
		applied{api.Matrix{}, q, p(0, 0), api.OK},
		applied{api.Matrix{A: 2 * one, B: 3 * one, C: 5 * one, D: 7 * one, E: 11, F: 13}, q, p(31*one+11, 44*one+13), api.OK},
		applied{api.Matrix{A: -2 * one, B: 3 * one, C: 5 * one, D: -7 * one, E: -11, F: -13}, q, p(19*one-11, -26*one-13), api.OK},
		applied{api.Matrix{B: one, C: -one}, q, p(-5*one, 3*one), api.OK}, // a quarter of a turn
		applied{api.Matrix{A: half, D: half}, p(3, -3), p(2, -1), api.OK}, // halves go up
		applied{api.Matrix{A: one, D: -one}, p(most, most), p(most, least), api.OK},
	)
}

// Products that lie on a half, and on the next number to either side of it, are rounded to the nearest one, of two to the greater one.
func TestP8_1RoundsToTheNearest(t *testing.T) {
	for _, c := range []struct{ product, want int64 }{
		{half - 1, 0}, {half, 1}, {half + 1, 1},
		{-half - 1, -1}, {-half, 0}, {-half + 1, 0},
		{one + half - 1, 1}, {one + half, 2}, {one + half + 1, 2},
		{-one - half - 1, -2}, {-one - half, -1}, {-one - half + 1, -1},
		{1, 0}, {-1, 0}, {one - 1, 1}, {-one + 1, -1}, {0, 0},
	} {
		n := c.product
		check(t,
			applied{api.Matrix{A: 1}, p(n, 9), p(c.want, 0), api.OK},
			applied{api.Matrix{B: 1}, p(n, 9), p(0, c.want), api.OK},
			applied{api.Matrix{C: 1}, p(9, n), p(c.want, 0), api.OK},
			applied{api.Matrix{D: 1}, p(9, n), p(0, c.want), api.OK},
			applied{api.Matrix{A: n, B: -n, C: n, D: n}, p(1, 0), p(c.want, by(-n)), api.OK},
			applied{api.Matrix{A: -n, B: n, C: n, D: n}, p(-1, 0), p(c.want, by(-n)), api.OK},
			applied{api.Matrix{A: n, B: n, C: n, D: -n}, p(0, 1), p(c.want, by(-n)), api.OK},
			applied{api.Matrix{A: n, B: n, C: -n, D: n}, p(0, -1), p(c.want, by(-n)), api.OK},
		)
	}
}

// by is a product with one more sign, rounded.
func by(product int64) int64 { return wordsDot(product, 1, 0, 0).Int64() }

// Each of these comes out otherwise, if the two products are rounded one by one.
func TestP8_1RoundsOnce(t *testing.T) {
	for _, c := range []struct{ first, second, want int64 }{
		{half / 2, half / 2, 1},
		{half, half, 1},
		{half - 1, 1, 1},
		{half, -1, 0},
		{-half, -half, -1},
		{-half / 2, -half/2 - 1, -1},
		{-half, 1, 0},
		{half + 1, half + 1, 1},
		{half - 1, half - 1, 1},
		{3 * half, -half, 1},
	} {
		x, y := c.first, c.second
		check(t,
			applied{api.Matrix{A: 1, C: 1}, p(x, y), p(c.want, 0), api.OK},
			applied{api.Matrix{A: 1, C: 1}, p(y, x), p(c.want, 0), api.OK},
			applied{api.Matrix{B: 1, D: 1}, p(x, y), p(0, c.want), api.OK},
			applied{api.Matrix{A: x, C: y}, p(1, 1), p(c.want, 0), api.OK},
			applied{api.Matrix{B: x, D: y}, p(1, 1), p(0, c.want), api.OK},
		)
	}
}

// E and F are added whole: they change no rounding, and what they are added to may have been too great.
func TestP8_1AddsBehindTheRounding(t *testing.T) {
	for _, n := range edges() {
		check(t, applied{api.Matrix{E: n, F: -n}, p(most, least), p(n, -n), api.OK})
	}
	check(t,
		applied{api.Matrix{A: 1, D: 1, E: -1, F: -2}, p(half, -half), p(0, -2), api.OK},
		applied{api.Matrix{A: 1, D: 1, E: half, F: -half}, p(half-1, -half-1), p(half, -half-1), api.OK},
		applied{api.Matrix{A: 2 * one, D: 2 * one, E: -1, F: 1}, p(1<<31, -1<<31), p(most, least), api.OK},
		applied{api.Matrix{A: 2 * one, D: 2 * one, E: least, F: most}, p(most, least), p(most, least), api.OK},
		applied{api.Matrix{A: 2 * one, D: 2 * one, E: least + 1, F: most}, p(most, least), p(0, 0), api.ErrRange},
		applied{api.Matrix{A: 2 * one, D: 2 * one, E: least, F: most - 1}, p(most, least), p(0, 0), api.ErrRange},
		applied{api.Matrix{A: most, C: most, E: 5, F: 6}, p(most, least), p(5, 6), api.OK},
	)
}

func TestP8_1ApplyAtTheBound(t *testing.T) {
	m := Same()
	m.E, m.F = 1, 1
	check(t,
		applied{m, p(most-1, 0), p(most, 1), api.OK},
		applied{m, p(0, most-1), p(1, most), api.OK},
		applied{m, p(most, 0), p(0, 0), api.ErrRange},
		applied{m, p(0, most), p(0, 0), api.ErrRange},
		applied{m, p(most, most), p(0, 0), api.ErrRange},
	)
	m.E, m.F = -1, -1
	check(t,
		applied{m, p(least+1, 0), p(least, -1), api.OK},
		applied{m, p(0, least+1), p(-1, least), api.OK},
		applied{m, p(least, 0), p(0, 0), api.ErrRange},
		applied{m, p(0, least), p(0, 0), api.ErrRange},
		applied{m, p(least, least), p(0, 0), api.ErrRange},
	)
	check(t,
		applied{api.Matrix{A: 2 * one}, p(1<<31, 0), p(0, 0), api.ErrRange},
		applied{api.Matrix{A: 2 * one}, p(-1<<31, 0), p(0, 0), api.ErrRange},
		applied{api.Matrix{D: 2 * one}, p(0, 1<<31), p(0, 0), api.ErrRange},
		applied{api.Matrix{D: 2 * one}, p(0, -1<<31), p(0, 0), api.ErrRange},
		applied{api.Matrix{A: 2 * one, D: 2 * one}, p(1<<31-1, 1-1<<31), p(most-1, least+1), api.OK},
		applied{api.Matrix{A: most}, p(most, 0), p(0, 0), api.ErrRange},
		applied{api.Matrix{A: most, C: most}, p(most, most), p(0, 0), api.ErrRange}, // round 2^64 it would be within
		applied{api.Matrix{B: most, D: most}, p(most, most), p(0, 0), api.ErrRange},
		applied{api.Matrix{A: most, B: most, C: most, D: most, E: most, F: most}, p(most, most), p(0, 0), api.ErrRange},
		applied{api.Matrix{A: least, B: least, C: least, D: least, E: least, F: least}, p(most, most), p(0, 0), api.ErrRange},
	)
}

// Half a number below the bound is rounded up to it, half a number below -2^32 + 1 up to that.
func TestP8_1RoundsAtTheBound(t *testing.T) {
	x, y := api.Matrix{A: one, C: 1}, api.Matrix{B: 1, D: one}
	check(t,
		applied{x, p(most, half-1), p(most, 0), api.OK},
		applied{x, p(most, half), p(0, 0), api.ErrRange},
		applied{x, p(least, -half), p(least, 0), api.OK},
		applied{x, p(least, -half-1), p(0, 0), api.ErrRange},
		applied{y, p(half-1, most), p(0, most), api.OK},
		applied{y, p(half, most), p(0, 0), api.ErrRange},
		applied{y, p(-half, least), p(0, least), api.OK},
		applied{y, p(-half-1, least), p(0, 0), api.ErrRange},
	)
}

func TestP8_1WrongMatrices(t *testing.T) {
	for _, n := range beyond() {
		for i := range 6 {
			m := Same()
			*numbersOf(&m)[i] = n
			check(t,
				applied{m, p(0, 0), p(0, 0), api.ErrArg},
				applied{m, p(1, 2), p(0, 0), api.ErrArg},
				applied{m, p(most, most), p(0, 0), api.ErrArg},
				applied{m, p(n, n), p(0, 0), api.ErrArg},
			)
		}
	}
}

// A wrong point is told ahead of a result that goes too far, and also where the matrix makes nothing of it.
func TestP8_1WrongPoints(t *testing.T) {
	for _, m := range []api.Matrix{{}, Same(), {A: half, D: half}, {A: most, B: most, C: most, D: most, E: most, F: most}} {
		for _, n := range beyond() {
			check(t,
				applied{m, p(n, 0), p(0, 0), api.ErrArg},
				applied{m, p(0, n), p(0, 0), api.ErrArg},
				applied{m, p(n, most), p(0, 0), api.ErrArg},
				applied{m, p(least, n), p(0, 0), api.ErrArg},
				applied{m, p(n, n), p(0, 0), api.ErrArg},
			)
		}
	}
	check(t, applied{Same(), p(most, least), p(most, least), api.OK}, applied{Same(), p(least, most), p(least, most), api.OK})
}

func TestP8_1ApplyHoldsWithBigNumbers(t *testing.T) {
	var mix mixer
	told := map[api.Errno]int{}
	for range 200000 {
		m, q := mix.matrix(), mix.point()
		want, e := wordsApply(m, q)
		check(t, applied{m, q, want, e})
		told[e]++
		if t.Failed() {
			return
		}
	}
	if told[api.OK] < 1000 || told[api.ErrRange] < 1000 || told[api.ErrArg] < 1000 {
		t.Error(told)
	}
}
