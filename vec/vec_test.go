package vec

import (
	"math"
	"testing"

	"pointillist/api"
)

func checkRight(t *testing.T, x, y int64, want bool) {
	t.Helper()
	if Right(p(x, y)) != want {
		t.Error(x, y, "want", want)
	}
	if wordsRight(p(x, y)) != want {
		t.Error("the table itself is wrong", x, y)
	}
}

func TestP9_1RightOfOneNumber(t *testing.T) {
	for _, c := range []struct {
		n    int64
		want bool
	}{
		{0, false}, {1, false}, {unit / 2, false},
		{unit - 66, false}, {unit - 65, false}, {unit - 64, true}, {unit - 63, true},
		{unit - 1, true}, {unit, true}, {unit + 1, true},
		{unit + 63, true}, {unit + 64, true}, {unit + 65, false}, {unit + 66, false},
		{1 << 31, false}, {1 << 32, false}, {1<<32 + unit, false}, {1 << 62, false}, {1<<62 + unit, false}, {most, false}, {most - 1, false},
	} {
		for _, q := range mirrors(c.n, 0) {
			checkRight(t, q.X, q.Y, c.want)
		}
	}
	checkRight(t, least, 0, false)
	checkRight(t, 0, least, false)
	checkRight(t, least+unit, 0, false)
	checkRight(t, 0, least+unit, false)
}

// The Hypot is rounded down: up to the last number that has it a direction is right, or isn't.
func TestP9_1RightByTheHypot(t *testing.T) {
	for _, x := range []int64{0, 1, 2, 777, 1 << 20, unit / 2, unit / 5 * 3, diagonal, unit - 66, unit - 65} {
		for _, c := range []struct {
			h    int64
			want bool
		}{{unit - 65, false}, {unit - 64, true}, {unit, true}, {unit + 64, true}, {unit + 65, false}} {
			if x > c.h {
				continue
			}
			for _, y := range []int64{beside(x, c.h), lastOfHypot(x, c.h)} {
				if h := wordsHypot(whole(x), whole(y)).Int64(); h != c.h {
					t.Fatal("no such number", x, y, h)
				}
				for _, q := range mirrors(x, y) {
					checkRight(t, q.X, q.Y, c.want)
				}
			}
		}
	}
}

// A number at the bound leaves little room for the other one.
func TestP9_1RightAtTheBound(t *testing.T) {
	room := lastOfHypot(unit+64, unit+64)
	for _, n := range []int64{0, 1, room} {
		for _, q := range mirrors(unit+64, n) {
			checkRight(t, q.X, q.Y, true)
		}
		for _, q := range mirrors(unit+65, n) {
			checkRight(t, q.X, q.Y, false)
		}
	}
	for _, n := range []int64{room + 1, unit - 64, unit, unit + 64, unit + 65, most} {
		for _, q := range mirrors(unit+64, n) {
			checkRight(t, q.X, q.Y, false)
		}
	}
	for _, q := range mirrors(most, most) {
		checkRight(t, q.X, q.Y, false)
	}
	checkRight(t, least, least, false)
	checkRight(t, least, unit, false)
	checkRight(t, unit, least, false)
}

// quarters are those to turn by, with what is left over of them by 4.
func quarters() map[int]int {
	return map[int]int{
		-9: 3, -8: 0, -7: 1, -6: 2, -5: 3, -4: 0, -3: 1, -2: 2, -1: 3,
		0: 0, 1: 1, 2: 2, 3: 3, 4: 0, 5: 1, 6: 2, 7: 3, 8: 0, 9: 1,
		math.MaxInt: 3, math.MaxInt - 1: 2, math.MaxInt - 2: 1, math.MaxInt - 3: 0,
		math.MinInt: 0, math.MinInt + 1: 1, math.MinInt + 2: 2, math.MinInt + 3: 3,
	}
}

func TestP9_2Turn(t *testing.T) {
	for n, left := range quarters() {
		for _, d := range []api.Point{p(unit, 0), p(0, -unit), p(644245094, 858993459), p(-644245094, 858993459), p(-diagonal, -diagonal), p(unit+64, 0), p(7, 64-unit)} {
			want := [4]api.Point{d, p(-d.Y, d.X), p(-d.X, -d.Y), p(d.Y, -d.X)}[left]
			if q := Turn(d, n); q != want {
				t.Error(d, n, q, "want", want)
			}
		}
	}
	if q := Turn(p(unit, 0), 1); q != p(0, unit) {
		t.Error("the chapter's example", q)
	}
}

func TestP9_2TurnGoesOnAndBack(t *testing.T) {
	var mix mixer
	for range 1000 {
		d := mix.direction()
		forth, back := d, d
		for n := range 10 {
			if q := Turn(d, n); q != forth {
				t.Error(d, n, q, "want", forth)
			}
			if q := Turn(d, -n); q != back {
				t.Error(d, -n, q, "want", back)
			}
			forth = p(-forth.Y, forth.X)
			back = p(back.Y, -back.X)
		}
	}
}

func checkProducts(t *testing.T, a, b api.Point, dot, cross int64) {
	t.Helper()
	if !wordsRight(a) || !wordsRight(b) {
		t.Fatal("no directions that are right", a, b)
	}
	if n := Dot(a, b); n != dot {
		t.Error(a, b, "Dot", n, "want", dot)
	}
	if n := Cross(a, b); n != cross {
		t.Error(a, b, "Cross", n, "want", cross)
	}
}

func TestP9_2DotAndCross(t *testing.T) {
	right, down, left, up := p(unit, 0), p(0, unit), p(-unit, 0), p(0, -unit)
	slope, steep := p(644245094, 858993459), p(858993459, 644245094)
	for _, c := range []struct {
		a, b       api.Point
		dot, cross int64
	}{
		{right, right, unit, 0},
		{right, down, 0, unit}, // the order tells the sign
		{down, right, 0, -unit},
		{right, left, -unit, 0},
		{left, right, -unit, 0},
		{right, up, 0, -unit},
		{up, right, 0, unit},
		{down, down, unit, 0},
		{down, left, 0, unit},
		{left, down, 0, -unit},
		{slope, right, 644245094, -858993459},
		{right, slope, 644245094, 858993459},
		{slope, down, 858993459, 644245094},
		{down, slope, 858993459, -644245094},
		{slope, steep, 1030792150, -300647711},
		{steep, slope, 1030792150, 300647711},
		{p(unit+64, 0), p(unit+64, 0), unit + 128, 0}, // both are longer than 1
		{p(unit+64, 0), p(-unit-64, 0), -unit - 128, 0},
		{p(unit-64, 0), p(0, unit-64), 0, unit - 128},
	} {
		checkProducts(t, c.a, c.b, c.dot, c.cross)
	}
}

// checkDot and checkCross are for directions that were put together, which have to be right.
func checkDot(t *testing.T, a, b api.Point, want int64) {
	t.Helper()
	checkProducts(t, a, b, want, wordsCross(a, b))
}

func checkCross(t *testing.T, a, b api.Point, want int64) {
	t.Helper()
	checkProducts(t, a, b, wordsDot(a, b), want)
}

// Each of these sums is a whole number and n, which has 30 places.
func TestP9_2RoundsToTheNearest(t *testing.T) {
	for _, c := range []struct{ n, want int64 }{
		{unit/2 - 1, 0}, {unit / 2, 1}, {unit/2 + 1, 1},
		{-unit/2 - 1, -1}, {-unit / 2, 0}, {-unit/2 + 1, 0},
		{1, 0}, {-1, 0}, {0, 0}, {unit / 3 * 2, 1}, {-unit / 3 * 2, -1},
	} {
		n := c.n
		side := beside(n, unit)
		for _, w := range []int64{side, -side} {
			checkDot(t, p(unit, 1), p(w, n), w+c.want)
			checkDot(t, p(w, n), p(unit, 1), w+c.want)
			checkDot(t, p(1, unit), p(n, w), w+c.want)
			checkDot(t, p(unit, -1), p(w, -n), w+c.want)
			checkDot(t, p(-1, -unit), p(-n, -w), w+c.want)
			checkCross(t, p(unit, -1), p(n, w), w+c.want)
			checkCross(t, p(unit, 1), p(-n, w), w+c.want)
			checkCross(t, p(1, unit), p(-w, n), w+c.want)
			checkCross(t, p(-1, unit), p(-w, -n), w+c.want)
			checkCross(t, p(w, n), p(-1, unit), w+c.want)
			checkCross(t, p(n, w), p(-unit, 1), w+c.want)
		}
	}
}

// A sum is rounded once: of many directions it would come out otherwise, if its products were rounded one by one.
func TestP9_2HoldsWithBigNumbers(t *testing.T) {
	var mix mixer
	dots, crosses := 0, 0
	alone := func(x, y int64) int64 { return wordsDot(p(x, 0), p(y, 0)) }
	for range 50000 {
		a, b := mix.direction(), mix.direction()
		dot, cross := wordsDot(a, b), wordsCross(a, b)
		checkProducts(t, a, b, dot, cross)
		if alone(a.X, b.X)+alone(a.Y, b.Y) != dot {
			dots++
		}
		if alone(a.X, b.Y)-alone(a.Y, b.X) != cross {
			crosses++
		}
		if t.Failed() {
			return
		}
	}
	if dots < 1000 || crosses < 1000 {
		t.Error("too few tell anything", dots, crosses)
	}
}
