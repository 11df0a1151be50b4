package arc

import (
	"slices"
	"testing"

	"pointillist/api"
	"pointillist/root"
	"pointillist/trig"
	"pointillist/vec"
)

// Each test here makes one division come out just between two whole numbers, where it is the greater one that is taken.

// isHalf asks whether n by of, divided by below, is such.
func isHalf(n, by, below int64) bool {
	up, down := over(below, [2]int64{n, by}), -over(below, [2]int64{-n, by})
	return up != down
}

// legs are two numbers, the first one n, whose Hypot is h.
func legs(n, h int64) (int64, int64) {
	m := int64(root.Wide(0, uint64(h*h-n*n)))
	for int64(root.Hypot(n, m)) < h {
		m++
	}
	return n, m
}

func TestP10_1HalvesOfRadiiThatAreMadeLonger(t *testing.T) {
	var mix mixer
	count := 0
	for range 3000 {
		from := p(unit+mix.number(28), unit+mix.number(28))
		g := arc(p(-from.X, -from.Y), unit/2, unit/2*3, 0, mix.bool(), mix.bool())
		if mix.bool() {
			g.Rx, g.Ry = g.Ry, g.Rx
		}
		if l := wordsLengths(from, g).l; l > unit && isHalf(g.Rx, l, unit) && isHalf(g.Ry, l, unit) {
			count++
			checkWords(t, from, g)
		}
	}
	if count < 500 {
		t.Error("too few", count)
	}
}

// Of a chord that is just twice too long the parts are halved.
func TestP10_1HalvesOfAChordThatIsMadeShorter(t *testing.T) {
	var mix mixer
	for range 500 {
		u, v := legs(mix.size(30)|1, 2*unit)
		for _, q := range []api.Point{p(u, v), p(-u, v), p(u, -v), p(-u, -v), p(v, u), p(v, -u), p(-v, u), p(-v, -u)} {
			g := arc(p(-q.X, -q.Y), unit, unit, 0, mix.bool(), mix.bool())
			w := wordsLengths(q, g)
			if w.l != 2*unit || !isHalf(w.a, unit, w.l) && !isHalf(w.b, unit, w.l) {
				t.Fatal("no half", q, g)
			}
			checkWords(t, q, g)
		}
	}
}

// The handle of a quarter is twice an odd number: of a direction one of whose numbers is 2^28 times an odd one it has a half.
func TestP10_1HalvesOfHandles(t *testing.T) {
	for _, n := range []int64{1 << 28, 3 << 28} {
		x, y := legs(n, unit)
		for _, q := range []api.Point{p(x, y), p(-x, y), p(x, -y), p(-x, -y), p(y, x), p(y, -x), p(-y, x), p(-y, -x)} {
			for _, g := range fourWays(p(-q.X, -q.Y), unit, unit, 0) {
				w := wordsArc(q, g)
				k := vec.Handle(w.first, vec.Turn(w.first, 1))
				if !isHalf(w.first.X, k, unit) && !isHalf(w.first.Y, k, unit) {
					t.Fatal("no half", q, g, w.first, k)
				}
				checkWords(t, q, g)
			}
		}
	}
}

// A sine or a cosine of a half halves a radius that is odd: the joints of half circles lie on the ellipse's own axes.
func TestP10_1HalvesOfPoints(t *testing.T) {
	across, down := 0, 0
	for turn := int64(-720); turn <= 720; turn += 30 {
		sin, cos := trig.Both(turn * one)
		for _, r := range []int64{257, 1001, one + 1, one + 2} {
			for _, along := range []api.Point{p(r, 0), p(0, r), p(-r, 0), p(0, -r)} {
				from := p(
					over(unit, [2]int64{cos, along.X}, [2]int64{-sin, along.Y}),
					over(unit, [2]int64{sin, along.X}, [2]int64{cos, along.Y}),
				)
				for _, g := range slices.Concat(fourWays(p(-from.X, -from.Y), r, r, turn*one), fourWays(p(-from.X, -from.Y), r-1, r+1, turn*one)) {
					checkWords(t, from, g)
					x, y := halvesOfJoint(wordsArc(from, g))
					across += x
					down += y
				}
			}
		}
	}
	if min(across, down) < 100 {
		t.Error("too few", across, down)
	}
}

// halvesOfJoint counts those of the point behind the first quarter, of small radii.
func halvesOfJoint(w words) (x, y int) {
	d := vec.Turn(w.first, int(w.t))
	g, h := over(unit, [2]int64{w.rx, w.e.X + d.X}), over(unit, [2]int64{w.ry, w.e.Y + d.Y})
	if isHalf(1, w.c*g-w.s*h, unit) {
		x++
	}
	if isHalf(1, w.s*g+w.c*h, unit) {
		y++
	}
	return x, y
}
