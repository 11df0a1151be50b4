package affine

import (
	"math"
	"math/big"

	"pointillist/api"
)

const (
	one   = api.One
	half  = one / 2
	most  = api.Bound - 1
	least = -most
)

func p(x, y int64) api.Point { return api.Point{X: x, Y: y} }

// numbersOf are the numbers of a matrix, from A to F.
func numbersOf(m *api.Matrix) []*int64 {
	return []*int64{&m.A, &m.B, &m.C, &m.D, &m.E, &m.F}
}

// edges are numbers about which it changes what is told.
func edges() []int64 {
	return []int64{
		0, 1, -1, half - 1, half, half + 1, -half - 1, -half, -half + 1, one - 1, one, one + 1, -one - 1, -one, -one + 1, 3 * half, -3 * half,
		1 << 31, -1 << 31, most - 1, most, least + 1, least,
	}
}

// beyond are numbers that neither a matrix nor a point may have.
func beyond() []int64 {
	return []int64{api.Bound, -api.Bound, api.Bound + 1, -api.Bound - 1, 1 << 33, -1 << 33, 1 << 62, math.MaxInt64, math.MinInt64, math.MinInt64 + 1}
}

// mixer tells numbers by a rule, the same ones each time.
type mixer uint64

func (m *mixer) next() uint64 {
	*m = *m*6364136223846793005 + 1442695040888963407
	return uint64(*m ^ *m>>29)
}

// number is one of the edges, or one of any size within the bound, or rarely one beyond it.
func (m *mixer) number() int64 {
	l := edges()
	switch k := m.next() % 64; {
	case k == 0:
		l = beyond()
	case k < 40:
		n := int64(m.next()>>31) - api.Bound // -2^32 to 2^32 - 1
		return max(n>>(m.next()%33), least)
	}
	return l[m.next()%uint64(len(l))]
}

func (m *mixer) point() api.Point { return p(m.number(), m.number()) }

func (m *mixer) matrix() api.Matrix {
	var n api.Matrix
	for _, a := range numbersOf(&n) {
		*a = m.number()
	}
	return n
}

// wordsDot works out the nearest whole number to (a b + c d) / 2^16 by big numbers, of two the greater one.
func wordsDot(a, b, c, d int64) *big.Int {
	sum := new(big.Int).Mul(big.NewInt(a), big.NewInt(b))
	sum.Add(sum, new(big.Int).Mul(big.NewInt(c), big.NewInt(d)))
	sum.Add(sum, big.NewInt(half))
	return sum.Rsh(sum, 16) // of a number below 0, too, rounded down
}

func wordsFar(l ...*big.Int) bool {
	bound := new(big.Int).Lsh(big.NewInt(1), 32)
	for _, n := range l {
		if n.CmpAbs(bound) >= 0 {
			return true
		}
	}
	return false
}

func wordsRight(l ...int64) bool {
	for _, n := range l {
		if wordsFar(big.NewInt(n)) {
			return false
		}
	}
	return true
}

func wordsRightMatrix(m api.Matrix) bool {
	return wordsRight(m.A, m.B, m.C, m.D, m.E, m.F)
}

// wordsTake are the two results, by the chapter's words, whatever they are.
func wordsTake(m api.Matrix, q api.Point) (x, y *big.Int) {
	x = wordsDot(m.A, q.X, m.C, q.Y)
	y = wordsDot(m.B, q.X, m.D, q.Y)
	return x.Add(x, big.NewInt(m.E)), y.Add(y, big.NewInt(m.F))
}

func wordsApply(m api.Matrix, q api.Point) (api.Point, api.Errno) {
	if !wordsRightMatrix(m) || !wordsRight(q.X, q.Y) {
		return api.Point{}, api.ErrArg
	}
	x, y := wordsTake(m, q)
	if wordsFar(x, y) {
		return api.Point{}, api.ErrRange
	}
	return p(x.Int64(), y.Int64()), api.OK
}

func wordsThen(m, n api.Matrix) (api.Matrix, api.Errno) {
	if !wordsRightMatrix(m) || !wordsRightMatrix(n) {
		return api.Matrix{}, api.ErrArg
	}
	a, b := wordsDot(n.A, m.A, n.C, m.B), wordsDot(n.B, m.A, n.D, m.B)
	c, d := wordsDot(n.A, m.C, n.C, m.D), wordsDot(n.B, m.C, n.D, m.D)
	e, f := wordsTake(n, p(m.E, m.F))
	if wordsFar(a, b, c, d, e, f) {
		return api.Matrix{}, api.ErrRange
	}
	return api.Matrix{A: a.Int64(), B: b.Int64(), C: c.Int64(), D: d.Int64(), E: e.Int64(), F: f.Int64()}, api.OK
}
