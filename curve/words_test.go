package curve

import (
	"math/big"

	"pointillist/api"
)

const (
	one   = api.One
	bound = 1 << 40
)

func p(x, y int64) api.Point { return api.Point{X: x, Y: y} }

// curve is one of eight numbers, point by point.
func curve(px, py, qx, qy, rx, ry, sx, sy int64) api.Curve {
	return api.Curve{P: p(px, py), Q: p(qx, qy), R: p(rx, ry), S: p(sx, sy)}
}

// along is a curve whose numbers on one axis are told, 0 is X, 1 is Y, and on the other one those of rest.
func along(axis int, l, rest [4]int64) api.Curve {
	if axis == 1 {
		l, rest = rest, l
	}
	return curve(l[0], rest[0], l[1], rest[1], l[2], rest[2], l[3], rest[3])
}

func numbersOf(c *api.Curve) []*int64 {
	return []*int64{&c.P.X, &c.P.Y, &c.Q.X, &c.Q.Y, &c.R.X, &c.R.Y, &c.S.X, &c.S.Y}
}

func pointsOf(c api.Curve) []api.Point { return []api.Point{c.P, c.Q, c.R, c.S} }

func far(a, b api.Point) int64 { return max(a.X-b.X, b.X-a.X, a.Y-b.Y, b.Y-a.Y) }

// over is the nearest whole number to above / below, of two the greater one; below is above 0. Where down holds it is the less one.
func over(above *big.Int, below int64, down bool) int64 {
	twice := new(big.Int).Lsh(above, 1)
	twice.Add(twice, big.NewInt(below))
	if down {
		twice.Sub(twice, big.NewInt(1))
	}
	return twice.Div(twice, big.NewInt(2*below)).Int64() // Div is Euclid's: rounded down
}

// sum is a times m and b times n.
func sum(a, m, b, n int64) *big.Int {
	left := new(big.Int).Mul(big.NewInt(a), big.NewInt(m))
	return left.Add(left, new(big.Int).Mul(big.NewInt(b), big.NewInt(n)))
}

// wordsRight asks of each number whether it lies there.
func wordsRight(c api.Curve) bool {
	for _, n := range numbersOf(&c) {
		if big.NewInt(*n).CmpAbs(big.NewInt(bound)) > 0 {
			return false
		}
	}
	return true
}

// middles makes middles, by whose halves go down, if that is asked for.
type middles struct{ down bool }

func (m middles) of(a, b api.Point) api.Point {
	return p(over(sum(a.X, 1, b.X, 1), 2, m.down), over(sum(a.Y, 1, b.Y, 1), 2, m.down))
}

// wordsCut is the chapter's words. At the step that down tells (1 to 3; 0: none) halves go down, which they shouldn't.
func wordsCut(c api.Curve, down int) (api.Curve, api.Curve) {
	first, second, third := middles{down == 1}, middles{down == 2}, middles{down == 3}
	a, b, m := first.of(c.P, c.Q), first.of(c.Q, c.R), first.of(c.R, c.S)
	d, e := second.of(a, b), second.of(b, m)
	f := third.of(d, e)
	return api.Curve{P: c.P, Q: a, R: d, S: f}, api.Curve{P: f, Q: e, R: m, S: c.S}
}

// wordsFlat works out each of the four sums.
func wordsFlat(c api.Curve) bool {
	for _, l := range [][3]int64{
		{c.P.X, c.Q.X, c.R.X}, {c.P.Y, c.Q.Y, c.R.Y}, {c.Q.X, c.R.X, c.S.X}, {c.Q.Y, c.R.Y, c.S.Y},
	} {
		n := sum(l[0], 1, l[1], -2)
		n.Add(n, big.NewInt(l[2]))
		if n.CmpAbs(big.NewInt(512)) > 0 {
			return false
		}
	}
	return true
}

func wordsElevate(a, b, c api.Point) api.Curve {
	return api.Curve{
		P: a,
		Q: p(over(sum(a.X, 1, b.X, 2), 3, false), over(sum(a.Y, 1, b.Y, 2), 3, false)),
		R: p(over(sum(c.X, 1, b.X, 2), 3, false), over(sum(c.Y, 1, b.Y, 2), 3, false)),
		S: c,
	}
}

func wordsToward(a, b, t int64, down bool) int64 {
	return a + over(sum(t, b, -t, a), 1<<16, down)
}

// wordsAt is the chapter's words, halves going down at a step as in wordsCut.
func wordsAt(c api.Curve, t int64, down int) api.Point {
	if t < 0 {
		t = 0
	}
	if t > 1<<16 {
		t = 1 << 16
	}
	l := pointsOf(c)
	for step := 1; len(l) > 1; step++ {
		var next []api.Point
		for i := 0; i+1 < len(l); i++ {
			a, b := l[i], l[i+1]
			next = append(next, p(wordsToward(a.X, b.X, t, step == down), wordsToward(a.Y, b.Y, t, step == down)))
		}
		l = next
	}
	return l[0]
}

// mixer tells numbers by a rule, the same ones each time.
type mixer uint64

func (m *mixer) next() uint64 {
	*m = *m*6364136223846793005 + 1442695040888963407
	return uint64(*m ^ *m>>29)
}

// number is one near 0, near either bound, or of any size between.
func (m *mixer) number() int64 {
	switch k := m.next() % 16; {
	case k == 0:
		return bound - int64(m.next()>>31%4)
	case k == 1:
		return int64(m.next()>>31%4) - bound
	case k < 5:
		return int64(m.next()>>31%9) - 4
	}
	n := int64(m.next() >> 24) // below 2^40
	n >>= m.next() >> 7 % 40
	if m.next()>>9&1 == 1 {
		return -n
	}
	return n
}

func (m *mixer) point() api.Point { return p(m.number(), m.number()) }

// curve is one that is right.
func (m *mixer) curve() api.Curve {
	return api.Curve{P: m.point(), Q: m.point(), R: m.point(), S: m.point()}
}

// t is one that At is asked for: from 0 to 2^16, most often, and of few bits, at times.
func (m *mixer) t() int64 {
	n := int64(m.next() >> 47 % (1<<16 + 1))
	switch m.next() >> 33 % 4 {
	case 0:
		return n &^ (1<<12 - 1)
	case 1:
		return 1 << (n % 17)
	}
	return n
}
