package strip

import (
	"iter"
	"math/big"
	"slices"
	"testing"

	"pointillist/api"
)

const (
	one   = 1 << 16
	bound = 1 << 34
)

// row is one strip with its row.
type row struct {
	r int
	s api.Strip
}

func edge(a, b, c, d int64) api.Edge {
	return api.Edge{P: api.Point{X: a, Y: b}, Q: api.Point{X: c, Y: d}}
}

func turned(e api.Edge) api.Edge { return api.Edge{P: e.Q, Q: e.P} }

// at is a strip with its row, told in the order that it is gone through.
func at(r int, x0, y0, x1, y1 int64) row {
	return row{r, api.Strip{X0: x0, Y0: y0, X1: x1, Y1: y1}}
}

func rows(l ...row) []row { return l }

func collect(seq iter.Seq2[int, api.Strip]) (l []row) {
	for r, s := range seq {
		l = append(l, row{r, s})
	}
	return l
}

// nearest is the whole number nearest to a / b, of two the greater one: one more than what is at most a / b, if a half or more is left over.
func nearest(a, b *big.Int) int64 {
	if b.Sign() < 0 {
		a, b = new(big.Int).Neg(a), new(big.Int).Neg(b)
	}
	n, left := new(big.Int).DivMod(a, b, new(big.Int))
	if left.Add(left, left).Cmp(b) >= 0 {
		return n.Int64() + 1
	}
	return n.Int64()
}

// wordsX is the chapter's word for X, by numbers of any size.
func wordsX(e api.Edge, y int64) int64 {
	wide := new(big.Int).Mul(big.NewInt(e.Q.X-e.P.X), big.NewInt(y-e.P.Y))
	return e.P.X + nearest(wide, big.NewInt(e.Q.Y-e.P.Y))
}

// wordsStrips asks each row of the picture whether more than one height of it lies between the ends.
func wordsStrips(e api.Edge, height int) (l []row) {
	for r := range height {
		top := int64(r) * 65536
		above, below := max(top, min(e.P.Y, e.Q.Y)), min(top+65536, max(e.P.Y, e.Q.Y))
		if above >= below {
			continue
		}
		if e.P.Y < e.Q.Y {
			l = append(l, at(r, wordsX(e, above), above-top, wordsX(e, below), below-top))
		} else {
			l = append(l, at(r, wordsX(e, below), below-top, wordsX(e, above), above-top))
		}
	}
	if e.P.Y > e.Q.Y {
		slices.Reverse(l)
	}
	return l
}

func wordsRows(e api.Edge, height int) (first, last int, ok bool) {
	for i, s := range wordsStrips(e, height) {
		if i == 0 {
			first, last = s.r, s.r
		}
		first, last, ok = min(first, s.r), max(last, s.r), true
	}
	return first, last, ok
}

// check holds what is told against the strips that are wanted, and the words; and Rows against them.
func check(t *testing.T, e api.Edge, height int, want ...row) {
	t.Helper()
	if got := collect(All(e, height)); !slices.Equal(got, want) {
		t.Error(e, height, got, "want", want)
	}
	if words := wordsStrips(e, height); !slices.Equal(words, want) {
		t.Error(e, height, "words", words, "want", want)
	}
	checkRowsByWords(t, e, height)
}

func checkWords(t *testing.T, e api.Edge, height int) {
	t.Helper()
	check(t, e, height, wordsStrips(e, height)...)
}

func checkRowsByWords(t *testing.T, e api.Edge, height int) {
	t.Helper()
	first, last, ok := wordsRows(e, height)
	checkRows(t, e, height, first, last, ok)
}

func checkRows(t *testing.T, e api.Edge, height, first, last int, ok bool) {
	t.Helper()
	if a, b, met := Rows(e, height); a != first || b != last || met != ok {
		t.Error(e, height, a, b, met, "want", first, last, ok)
	}
}

// heights are Ys of which each lies otherwise in its row or to the picture: about the ends of the first ones, and far off.
func heights() []int64 {
	return []int64{
		-bound, -bound + 1, -3*one - 1, -one, -one + 1, -1, 0, 1, one / 2, one - 1, one, one + 1, 3*one + 12345,
		4*one - 1, 4 * one, 4*one + 1, 9*one + 1, 4096*one - 1, 4096 * one, 4096*one + 1, bound - 1, bound,
	}
}

// across are pairs of Xs: upright, to the right and to the left, a little and as far as may be.
func across() [][2]int64 {
	return [][2]int64{
		{0, 0}, {bound, bound}, {-bound, -bound}, {0, 1}, {1, 0}, {-7, 7}, {3 * one, -5*one - 1},
		{-bound, bound}, {bound, -bound}, {bound - 1, -bound + 1}, {12345, bound}, {-bound, -98765},
	}
}
