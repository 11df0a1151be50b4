package vec

import (
	"math"
	"math/big"
	"testing"

	"pointillist/api"
)

const (
	unit  = api.Unit
	most  = math.MaxInt64
	least = math.MinInt64
)

func p(x, y int64) api.Point { return api.Point{X: x, Y: y} }

func whole(n int64) *big.Int { return big.NewInt(n) }

func times(a, b *big.Int) *big.Int { return new(big.Int).Mul(a, b) }

// wordsNearest is the nearest whole number to above/below, of two the greater one; below is above 0.
func wordsNearest(above, below *big.Int) *big.Int {
	twice := times(above, whole(2))
	twice.Add(twice, below)
	return twice.Div(twice, times(below, whole(2))) // Div is Euclid's: rounded down
}

func wordsHypot(x, y *big.Int) *big.Int {
	sum := times(x, x)
	sum.Add(sum, times(y, y))
	return sum.Sqrt(sum)
}

// wordsOf is the direction of x, y, with doublings as long as both lie from -bound to bound: the chapter's is 2^60.
func wordsOf(x, y, bound int64) (api.Point, bool) {
	far := whole(1 << 62)
	a, b := whole(x), whole(y)
	if x == 0 && y == 0 || a.CmpAbs(far) > 0 || b.CmpAbs(far) > 0 {
		return api.Point{}, false
	}
	for a.CmpAbs(whole(bound)) <= 0 && b.CmpAbs(whole(bound)) <= 0 {
		a, b = times(a, whole(2)), times(b, whole(2))
	}
	h := wordsHypot(a, b)
	return p(wordsNearest(times(a, whole(unit)), h).Int64(), wordsNearest(times(b, whole(unit)), h).Int64()), true
}

func wordsRight(d api.Point) bool {
	low, high := whole(unit-64), whole(unit+64)
	for _, n := range []int64{d.X, d.Y} {
		if whole(n).CmpAbs(high) > 0 {
			return false
		}
	}
	h := wordsHypot(whole(d.X), whole(d.Y))
	return h.Cmp(low) >= 0 && h.Cmp(high) <= 0
}

func wordsDot(a, b api.Point) int64 {
	sum := times(whole(a.X), whole(b.X))
	sum.Add(sum, times(whole(a.Y), whole(b.Y)))
	return wordsNearest(sum, whole(unit)).Int64()
}

func wordsCross(a, b api.Point) int64 {
	sum := times(whole(a.X), whole(b.Y))
	sum.Sub(sum, times(whole(a.Y), whole(b.X)))
	return wordsNearest(sum, whole(unit)).Int64()
}

func wordsHalf(a, b api.Point) (sin, cos int64) {
	n := wordsDot(a, b)
	if n < -unit {
		n = -unit
	}
	if n > unit {
		n = unit
	}
	s, c := times(whole(unit-n), whole(1<<29)), times(whole(unit+n), whole(1<<29))
	return s.Sqrt(s).Int64(), c.Sqrt(c).Int64()
}

func wordsHandle(a, b api.Point) int64 {
	sin, cos := wordsHalf(a, b)
	return wordsNearest(times(whole(4*sin), whole(unit)), whole(3*(unit+cos))).Int64()
}

// mixer tells numbers by a rule, the same ones each time.
type mixer uint64

func (m *mixer) next() uint64 {
	*m = *m*6364136223846793005 + 1442695040888963407
	return uint64(*m ^ *m>>29)
}

// number is of any size that Of takes, of either sign.
func (m *mixer) number() int64 {
	n := int64(m.next() >> 1 >> (1 + m.next()%62))
	if m.next()&1 == 1 {
		return -n
	}
	return n
}

// direction is one that is right, as long as may be, as short, or anything between.
func (m *mixer) direction() api.Point {
	for {
		n := unit - 64 + int64(m.next()%129)
		x := int64(m.next()>>31)%(2*n+1) - n
		square := whole(n*n - x*x)
		y := square.Sqrt(square).Int64()
		if m.next()&1 == 1 {
			y = -y
		}
		if m.next()&1 == 1 {
			x, y = y, x
		}
		if d := p(x, y); wordsRight(d) {
			return d
		}
	}
}

// beside is the least number that, with x, has the Hypot h; h is greater than x, either way, or as great.
func beside(x, h int64) int64 {
	square := times(whole(h), whole(h))
	square.Sub(square, times(whole(x), whole(x)))
	root := new(big.Int).Sqrt(square)
	if times(root, root).Cmp(square) < 0 {
		root.Add(root, whole(1))
	}
	return root.Int64()
}

// mirrors are a direction, or two numbers, with either sign and in either order.
func mirrors(x, y int64) []api.Point {
	return []api.Point{p(x, y), p(-x, y), p(x, -y), p(-x, -y), p(y, x), p(-y, x), p(y, -x), p(-y, -x)}
}

func checkOf(t *testing.T, x, y int64, want api.Point, ok bool) {
	t.Helper()
	if d, got := Of(x, y); d != want || got != ok {
		t.Error(x, y, d, got, "want", want, ok)
	}
}
