package arc

import (
	"math/big"
	"slices"
	"testing"

	"pointillist/api"
	"pointillist/root"
	"pointillist/trig"
	"pointillist/vec"
)

const (
	unit  = api.Unit
	one   = api.One
	bound = api.Bound
)

func p(x, y int64) api.Point { return api.Point{X: x, Y: y} }

func arc(to api.Point, rx, ry, turn int64, large, sweep bool) api.Segment {
	return api.Segment{Kind: api.Arc, To: to, Rx: rx, Ry: ry, Turn: turn, Large: large, Sweep: sweep}
}

// ways are the four in which Large and Sweep may stand.
func ways() [4][2]bool {
	return [4][2]bool{{false, false}, {false, true}, {true, false}, {true, true}}
}

func fourWays(to api.Point, rx, ry, turn int64) []api.Segment {
	var l []api.Segment
	for _, w := range ways() {
		l = append(l, arc(to, rx, ry, turn, w[0], w[1]))
	}
	return l
}

// over is the nearest whole number to the sum of the products, divided by below; of two the greater one.
func over(below int64, products ...[2]int64) int64 {
	sum := new(big.Int)
	for _, f := range products {
		sum.Add(sum, new(big.Int).Mul(big.NewInt(f[0]), big.NewInt(f[1])))
	}
	divisor := big.NewInt(below)
	if below < 0 {
		sum.Neg(sum)
		divisor.Neg(divisor)
	}
	sum.Lsh(sum, 1).Add(sum, divisor)
	return sum.Div(sum, divisor.Lsh(divisor, 1)).Int64() // Div is Euclid's: rounded down
}

// words is an arc by the chapter's steps 1 to 5, by big numbers; roots, sines and directions are those of the layers below.
type words struct {
	c, s, a, b, l  int64
	rx, ry         int64
	e, first, last api.Point
	half           api.Point
	t              int64
	large          bool
	stretched      bool // are the radii too short?
}

func wordsShape(from api.Point, g api.Segment) int {
	if from == g.To {
		return 0
	}
	if g.Rx < 256 || g.Ry < 256 || wordsLengths(from, g).l == 0 {
		return 1
	}
	return 2
}

// wordsLengths is steps 1 and 2.
func wordsLengths(from api.Point, g api.Segment) words {
	w := words{c: trig.Cos(g.Turn), s: trig.Sin(g.Turn), large: g.Large, t: -1}
	if g.Sweep {
		w.t = 1
	}
	dx, dy := from.X-g.To.X, from.Y-g.To.Y
	u := over(1<<31, [2]int64{w.c, dx}, [2]int64{w.s, dy})
	v := over(1<<31, [2]int64{w.c, dy}, [2]int64{-w.s, dx})
	w.a, w.b = over(g.Rx, [2]int64{u, 1 << 30}), over(g.Ry, [2]int64{v, 1 << 30})
	w.l = int64(root.Hypot(w.a, w.b))
	return w
}

// wordsArc is of a curved arc: steps 4 and 5.
func wordsArc(from api.Point, g api.Segment) words {
	w := wordsLengths(from, g)
	w.rx, w.ry = g.Rx, g.Ry
	w.half = p(over(2, [2]int64{from.X + g.To.X, 1}), over(2, [2]int64{from.Y + g.To.Y, 1}))
	if w.l > 1<<30 {
		w.rx, w.ry = over(1<<30, [2]int64{g.Rx, w.l}), over(1<<30, [2]int64{g.Ry, w.l})
		w.a, w.b = over(w.l, [2]int64{w.a, 1 << 30}), over(w.l, [2]int64{w.b, 1 << 30})
		w.stretched = true
	} else {
		m := int64(root.Floor(uint64((1<<30 - w.l) * (1<<30 + w.l))))
		x, y := over(w.l, [2]int64{w.b, m}), over(w.l, [2]int64{w.a, m})
		w.e = p(x, -y)
		if g.Large == g.Sweep {
			w.e = p(-x, y)
		}
	}
	w.first, _ = vec.Of(w.a-w.e.X, w.b-w.e.Y)
	w.last, _ = vec.Of(-w.a-w.e.X, -w.b-w.e.Y)
	return w
}

// point is step 6.
func (w words) point(x, y int64) api.Point {
	g, h := over(1<<30, [2]int64{w.rx, w.e.X + x}), over(1<<30, [2]int64{w.ry, w.e.Y + y})
	return p(
		over(1<<30, [2]int64{w.c, g}, [2]int64{-w.s, h})+w.half.X,
		over(1<<30, [2]int64{w.s, g}, [2]int64{w.c, h})+w.half.Y,
	)
}

// wordsPieces is step 7, of any two directions.
func wordsPieces(first, last api.Point, large bool, t int64) [][2]api.Point {
	var l [][2]api.Point
	w := first
	goOn := func() {
		z := vec.Turn(w, int(t))
		l = append(l, [2]api.Point{w, z})
		w = z
	}
	if large {
		goOn()
		goOn()
	}
	for len(l) < 4 {
		if vec.Dot(w, last) >= 1<<30-64 {
			break
		}
		if t*vec.Cross(w, last) >= 0 && vec.Dot(w, last) >= 0 {
			break
		}
		goOn()
	}
	return append(l, [2]api.Point{w, last})
}

// wordsCurves is step 8; the cubics are told whatever bound they keep.
func wordsCurves(from api.Point, g api.Segment) []api.Curve {
	w := wordsArc(from, g)
	var l []api.Curve
	for _, piece := range wordsPieces(w.first, w.last, w.large, w.t) {
		a, z := piece[0], piece[1]
		k := vec.Handle(a, z)
		out, in := vec.Turn(a, int(w.t)), vec.Turn(z, int(w.t))
		l = append(l, api.Curve{
			P: w.point(a.X, a.Y),
			Q: w.point(a.X+over(1<<30, [2]int64{k, out.X}), a.Y+over(1<<30, [2]int64{k, out.Y})),
			R: w.point(z.X-over(1<<30, [2]int64{k, in.X}), z.Y-over(1<<30, [2]int64{k, in.Y})),
			S: w.point(z.X, z.Y),
		})
	}
	l[0].P, l[len(l)-1].S = from, g.To
	return l
}

func points(c api.Curve) [4]api.Point { return [4]api.Point{c.P, c.Q, c.R, c.S} }

func far(l []api.Curve) bool {
	for _, c := range l {
		for _, q := range points(c) {
			if max(q.X, -q.X, q.Y, -q.Y) >= 1<<32 {
				return true
			}
		}
	}
	return false
}

func pieces(from api.Point, g api.Segment) [][2]api.Point {
	var l [][2]api.Point
	for w, z := range Pieces(from, g) {
		l = append(l, [2]api.Point{w, z})
	}
	return l
}

// checkTold checks what the three calls tell of an arc.
func checkTold(t *testing.T, from api.Point, g api.Segment, shape int, told []api.Curve, e api.Errno, parts [][2]api.Point) {
	t.Helper()
	if n := Shape(from, g); n != shape {
		t.Fatal(from, g, "Shape", n, "want", shape)
	}
	l, got := Curves(from, g)
	if got != e || !slices.Equal(l, told) {
		t.Fatal(from, g, "Curves", l, got, "want", told, e)
	}
	if l := pieces(from, g); !slices.Equal(l, parts) {
		t.Fatal(from, g, "Pieces", l, "want", parts)
	}
	checkChain(t, from, g, l)
}

// checkChain checks P10.3 of cubics, if there are any.
func checkChain(t *testing.T, from api.Point, g api.Segment, l []api.Curve) {
	t.Helper()
	if len(l) == 0 {
		return
	}
	if len(l) > 5 || l[0].P != from || l[len(l)-1].S != g.To {
		t.Fatal(from, g, l)
	}
	for i := range len(l) - 1 {
		if l[i].S != l[i+1].P {
			t.Fatal(from, g, i, l)
		}
	}
}

// checkWords checks an arc by the chapter's words.
func checkWords(t *testing.T, from api.Point, g api.Segment) {
	t.Helper()
	shape := wordsShape(from, g)
	if shape != 2 {
		checkTold(t, from, g, shape, nil, api.OK, nil)
		return
	}
	w := wordsArc(from, g)
	parts := wordsPieces(w.first, w.last, w.large, w.t)
	l := wordsCurves(from, g)
	if far(l) {
		checkTold(t, from, g, shape, nil, api.ErrRange, parts)
		return
	}
	checkTold(t, from, g, shape, l, api.OK, parts)
}

// mixer tells numbers by a rule, the same ones each time.
type mixer uint64

func (m *mixer) next() uint64 {
	*m = *m*6364136223846793005 + 1442695040888963407
	return uint64(*m ^ *m>>29)
}

func (m *mixer) bool() bool { return m.next()&1 == 1 }

// size is below 2^bits, and of any length.
func (m *mixer) size(bits uint64) int64 {
	return int64(m.next() >> (64 - bits) >> (m.next() % bits))
}

// number is like size, of either sign.
func (m *mixer) number(bits uint64) int64 {
	n := m.size(bits)
	if m.bool() {
		return -n
	}
	return n
}

func (m *mixer) point(bits uint64) api.Point { return p(m.number(bits), m.number(bits)) }

func (m *mixer) direction() api.Point {
	for {
		if d, ok := vec.Of(m.number(40), m.number(40)); ok {
			return d
		}
	}
}

// any is an arc of numbers of all sizes that may be.
func (m *mixer) any() (api.Point, api.Segment) {
	return m.point(32), arc(m.point(32), m.size(32), m.size(32), m.number(32), m.bool(), m.bool())
}

// curved is an arc whose radii, up to 2^bits, aren't too short, but may be not long enough; some are circles.
func (m *mixer) curved(bits uint64) (api.Point, api.Segment) {
	for {
		from := m.point(bits)
		g := arc(p(from.X+m.number(bits), from.Y+m.number(bits)), 256+m.size(bits), 256+m.size(bits), m.number(32), m.bool(), m.bool())
		if m.bool() {
			g.Ry = g.Rx
		}
		if wordsShape(from, g) == 2 {
			return from, g
		}
	}
}
