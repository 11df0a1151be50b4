package affine

import (
	"testing"

	"pointillist/api"
)

func checkThen(t *testing.T, m, n, want api.Matrix, code api.Errno) {
	t.Helper()
	if g, e := Then(m, n); g != want || e != code {
		t.Error(m, n, g, e, "want", want, code)
	}
}

func TestP8_2ThenInItsOrder(t *testing.T) {
	move := api.Matrix{A: one, D: one, E: 3, F: 5}
	turn := api.Matrix{B: one, C: -one}
	broad := api.Matrix{A: 2 * one, D: one}
	skew := api.Matrix{A: one, C: one, D: one}
	for _, c := range []struct{ m, n, want api.Matrix }{
		{move, turn, api.Matrix{B: one, C: -one, E: -5, F: 3}},
		{turn, move, api.Matrix{B: one, C: -one, E: 3, F: 5}},
		{move, broad, api.Matrix{A: 2 * one, D: one, E: 6, F: 5}},
		{broad, move, api.Matrix{A: 2 * one, D: one, E: 3, F: 5}},
		{turn, broad, api.Matrix{B: one, C: -2 * one}},
		{broad, turn, api.Matrix{B: 2 * one, C: -one}},
		{broad, skew, api.Matrix{A: 2 * one, C: one, D: one}},
		{skew, broad, api.Matrix{A: 2 * one, C: 2 * one, D: one}},
		{turn, skew, api.Matrix{A: one, B: one, C: -one}},
		{skew, turn, api.Matrix{B: one, C: -one, D: one}},
		{turn, turn, api.Matrix{A: -one, D: -one}},
		{move, move, api.Matrix{A: one, D: one, E: 6, F: 10}},
		{api.Matrix{}, move, api.Matrix{E: 3, F: 5}},
		{move, api.Matrix{}, api.Matrix{}},
	} {
		checkThen(t, c.m, c.n, c.want, api.OK)
	}
	checkThen(t,
		api.Matrix{A: 2 * one, B: 3 * one, C: 5 * one, D: 7 * one, E: 11 * one, F: 13 * one},
		api.Matrix{A: 17 * one, B: 19 * one, C: 23 * one, D: 29 * one, E: 31, F: 37},
		api.Matrix{A: 103 * one, B: 125 * one, C: 246 * one, D: 298 * one, E: 486*one + 31, F: 586*one + 37}, api.OK)
}

// Of whole matrices and points nothing is rounded: there one matrix behind the other does what both together do.
func TestP8_2ThenDoesTheOneAndThenTheOther(t *testing.T) {
	var mix mixer
	small := func() int64 { return int64(mix.next()%41) - 20 }
	for range 5000 {
		m := api.Matrix{A: small() * one, B: small() * one, C: small() * one, D: small() * one, E: small(), F: small()}
		n := api.Matrix{A: small() * one, B: small() * one, C: small() * one, D: small() * one, E: small(), F: small()}
		q := p(small(), small())
		first, _ := Apply(m, q)
		want, _ := Apply(n, first)
		both, e := Then(m, n)
		if got, _ := Apply(both, q); e != api.OK || got != want {
			t.Fatal(m, n, q, got, want)
		}
	}
}

// Each of the six is rounded once, from both of its products; by 1 of n's numbers these are 2^-16 of m's.
func TestP8_2ThenRoundsOnce(t *testing.T) {
	for _, c := range []struct{ first, second, want int64 }{
		{half - 1, 0, 0}, {half, 0, 1}, {half + 1, 0, 1},
		{-half - 1, 0, -1}, {-half, 0, 0}, {-half + 1, 0, 0},
		{one + half, 0, 2}, {-one - half, 0, -1}, {-one - half - 1, 0, -2},
		{half / 2, half / 2, 1}, {half, half, 1}, {half, -1, 0}, {half - 1, 1, 1}, {-half, -half, -1}, {-half, 1, 0}, {half - 1, half - 1, 1},
	} {
		x, y := c.first, c.second
		across, down := api.Matrix{A: 1, C: 1, E: 4, F: 4}, api.Matrix{B: 1, D: 1, E: 4, F: 4}
		checkThen(t, api.Matrix{A: x, B: y}, across, api.Matrix{A: c.want, E: 4, F: 4}, api.OK)
		checkThen(t, api.Matrix{A: x, B: y}, down, api.Matrix{B: c.want, E: 4, F: 4}, api.OK)
		checkThen(t, api.Matrix{C: x, D: y}, across, api.Matrix{C: c.want, E: 4, F: 4}, api.OK)
		checkThen(t, api.Matrix{C: x, D: y}, down, api.Matrix{D: c.want, E: 4, F: 4}, api.OK)
		checkThen(t, api.Matrix{E: x, F: y}, across, api.Matrix{E: c.want + 4, F: 4}, api.OK)
		checkThen(t, api.Matrix{E: x, F: y}, down, api.Matrix{E: 4, F: c.want + 4}, api.OK)
		checkThen(t, api.Matrix{A: 1, B: 1}, api.Matrix{A: x, C: y}, api.Matrix{A: c.want}, api.OK)
		checkThen(t, api.Matrix{C: 1, D: 1}, api.Matrix{B: x, D: y}, api.Matrix{D: c.want}, api.OK)
		checkThen(t, api.Matrix{E: 1, F: 1}, api.Matrix{B: x, D: y}, api.Matrix{F: c.want}, api.OK)
	}
}

// Of these n, the one brings the first number of a column to a bound, by some of the second one; the other the second, by the first.
func TestP8_2ThenAtTheBound(t *testing.T) {
	first, second := api.Matrix{A: one, C: 1}, api.Matrix{B: 1, D: one}
	for column := range 3 {
		x, y := 2*column, 2*column+1
		for _, c := range []struct {
			most, other, want int64
			e                 api.Errno
		}{
			{most, half - 1, most, api.OK},
			{most, half, 0, api.ErrRange},
			{most - 1, one, most, api.OK},
			{most, one, 0, api.ErrRange},
			{least, -half, least, api.OK},
			{least, -half - 1, 0, api.ErrRange},
			{least + 1, -one, least, api.OK},
			{least, -one, 0, api.ErrRange},
		} {
			var m, want api.Matrix
			*numbersOf(&m)[x], *numbersOf(&m)[y] = c.most, c.other
			*numbersOf(&want)[x] = c.want
			checkThen(t, m, first, want, c.e)
			m, want = api.Matrix{}, api.Matrix{}
			*numbersOf(&m)[x], *numbersOf(&m)[y] = c.other, c.most
			*numbersOf(&want)[y] = c.want
			checkThen(t, m, second, want, c.e)
		}
	}
}

// What is added to E and F is added behind the rounding, and may bring back what went too far; of A to D nothing does.
func TestP8_2ThenAddsToTheLastTwoAlone(t *testing.T) {
	twice := api.Matrix{A: 2 * one, D: 2 * one, E: -1, F: 1}
	checkThen(t, api.Matrix{E: 1 << 31, F: -1 << 31}, twice, api.Matrix{E: most, F: least}, api.OK)
	checkThen(t, api.Matrix{E: -1 << 31}, twice, api.Matrix{}, api.ErrRange)
	checkThen(t, api.Matrix{F: 1 << 31}, twice, api.Matrix{}, api.ErrRange)
	checkThen(t, api.Matrix{E: 1<<31 + 1}, twice, api.Matrix{}, api.ErrRange)
	checkThen(t, api.Matrix{A: 1 << 31}, twice, api.Matrix{}, api.ErrRange)
	checkThen(t, api.Matrix{B: -1 << 31}, twice, api.Matrix{}, api.ErrRange)
	checkThen(t, api.Matrix{C: 1 << 31}, twice, api.Matrix{}, api.ErrRange)
	checkThen(t, api.Matrix{D: -1 << 31}, twice, api.Matrix{}, api.ErrRange)
	checkThen(t, api.Matrix{A: 1, B: 1, C: 1, D: 1}, twice, api.Matrix{A: 2, B: 2, C: 2, D: 2, E: -1, F: 1}, api.OK)
	checkThen(t, api.Matrix{E: most}, api.Matrix{A: one, D: one, E: 1}, api.Matrix{}, api.ErrRange)
	checkThen(t, api.Matrix{F: least}, api.Matrix{A: one, D: one, F: -1}, api.Matrix{}, api.ErrRange)
}

// A matrix that isn't right is told ahead of what goes too far, whichever of the two it is.
func TestP8_2ThenOfWrongMatrices(t *testing.T) {
	far := api.Matrix{A: most, B: most, C: most, D: most, E: most, F: most}
	checkThen(t, far, far, api.Matrix{}, api.ErrRange)
	for _, n := range beyond() {
		for i := range 6 {
			wrong := Same()
			*numbersOf(&wrong)[i] = n
			for _, m := range []api.Matrix{{}, Same(), far, wrong} {
				checkThen(t, wrong, m, api.Matrix{}, api.ErrArg)
				checkThen(t, m, wrong, api.Matrix{}, api.ErrArg)
			}
			farToo := far
			*numbersOf(&farToo)[i] = n
			checkThen(t, farToo, far, api.Matrix{}, api.ErrArg)
			checkThen(t, far, farToo, api.Matrix{}, api.ErrArg)
		}
	}
}

func TestP8_2ThenHoldsWithBigNumbers(t *testing.T) {
	var mix mixer
	told := map[api.Errno]int{}
	for k := range 200000 {
		m, n := mix.matrix(), mix.matrix()
		if k%2 == 0 { // so that more of them stay within the bound
			for _, a := range append(numbersOf(&m), numbersOf(&n)...) {
				*a >>= 8
			}
		}
		want, code := wordsThen(m, n)
		checkThen(t, m, n, want, code)
		told[code]++
		if t.Failed() {
			return
		}
	}
	if told[api.OK] < 1000 || told[api.ErrRange] < 1000 || told[api.ErrArg] < 1000 {
		t.Error(told)
	}
}

func TestP8_3SameChangesNothing(t *testing.T) {
	for _, x := range edges() {
		for _, y := range edges() {
			check(t, applied{Same(), p(x, y), p(x, y), api.OK})
		}
	}
	var mix mixer
	for range 20000 {
		m := mix.matrix()
		want, code := m, api.OK
		if !wordsRightMatrix(m) {
			want, code = api.Matrix{}, api.ErrArg
		}
		checkThen(t, m, Same(), want, code)
		checkThen(t, Same(), m, want, code)
	}
}

func TestP8_3MovesAreExact(t *testing.T) {
	for _, x := range edges() {
		for _, by := range edges() {
			m := api.Matrix{A: one, D: one, E: by, F: -by}
			want, code := p(x+by, x-by), api.OK
			if !wordsRight(x+by, x-by) {
				want, code = api.Point{}, api.ErrRange
			}
			check(t, applied{m, p(x, x), want, code})
			both := api.Matrix{A: one, D: one, E: x + by, F: x - by}
			if code != api.OK {
				both = api.Matrix{}
			}
			checkThen(t, api.Matrix{A: one, D: one, E: x, F: x}, m, both, code)
		}
	}
}
