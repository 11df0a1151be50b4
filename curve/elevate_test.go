package curve

import (
	"math/big"
	"testing"

	"pointillist/api"
)

func checkElevate(t *testing.T, a, b, c api.Point, want api.Curve) {
	t.Helper()
	if got := Elevate(a, b, c); got != want {
		t.Error(a, b, c, got, "want", want)
	}
	if got := Elevate(c, b, a); got != (api.Curve{P: want.S, Q: want.R, R: want.Q, S: want.P}) {
		t.Error("backwards", a, b, c, got, "want", want)
	}
	if got := wordsElevate(a, b, c); got != want {
		t.Error("by the words", a, b, c, got, "want", want)
	}
}

func TestP11_2ElevateOfTheExamples(t *testing.T) {
	checkElevate(t, p(0, 0), p(3, 0), p(6, 0), curve(0, 0, 2, 0, 4, 0, 6, 0))
	checkElevate(t, p(0, 0), p(0, 3), p(0, 6), curve(0, 0, 0, 2, 0, 4, 0, 6))
	checkElevate(t, p(0, 0), p(10, -10), p(20, 1), curve(0, 0, 7, -7, 13, -6, 20, 1))
	checkElevate(t, p(0, 0), p(0, 0), p(0, 0), api.Curve{})
	checkElevate(t, p(5, -7), p(5, -7), p(5, -7), curve(5, -7, 5, -7, 5, -7, 5, -7))
}

// Thirds that come out at whole numbers, at one third and at two, above 0 and below it.
func TestP11_2ElevateRoundsThirds(t *testing.T) {
	for _, c := range []struct{ end, handle, want int64 }{
		{3, 0, 1}, {-3, 0, -1}, {1, 1, 1}, {-1, -1, -1}, {0, 3, 2}, {0, -3, -2}, {3, 3, 3}, {1, -2, -1}, {-1, 2, 1}, {2, -1, 0},
		{1, 0, 0}, {4, 0, 1}, {0, 2, 1}, {-2, 0, -1}, {2, 1, 1}, {0, -1, -1}, {-5, 0, -2}, {7, 0, 2}, {-1, 1, 0}, {0, 5, 3},
		{2, 0, 1}, {5, 0, 2}, {0, 1, 1}, {-1, 0, 0}, {-4, 0, -1}, {0, -2, -1}, {-2, -1, -1}, {-7, 0, -2}, {1, -1, 0}, {0, -5, -3},
	} {
		checkElevate(t, p(c.end, 0), p(c.handle, 0), p(-2*c.handle, 0), curve(c.end, 0, c.want, 0, 0, 0, -2*c.handle, 0))
		checkElevate(t, p(0, c.end), p(0, c.handle), p(0, -2*c.handle), curve(0, c.end, 0, c.want, 0, 0, 0, -2*c.handle))
		checkElevate(t, p(c.end, 30), p(c.handle, 60), p(c.end, -30), curve(c.end, 30, c.want, 50, c.want, 30, c.end, -30))
		checkElevate(t, p(30, c.end), p(60, c.handle), p(-30, c.end), curve(30, c.end, 50, c.want, 30, c.want, -30, c.end))
	}
}

func TestP11_2ElevateOfSmallNumbers(t *testing.T) {
	const n = 8
	for a := int64(-n); a <= n; a++ {
		for b := int64(-n); b <= n; b++ {
			for c := int64(-n); c <= n; c++ {
				first, second, third := p(a, c), p(b, a), p(c, b)
				checkElevate(t, first, second, third, wordsElevate(first, second, third))
			}
		}
	}
}

func TestP11_2ElevateAtTheBounds(t *testing.T) {
	high, low := p(bound, bound), p(-bound, -bound)
	checkElevate(t, high, high, high, api.Curve{P: high, Q: high, R: high, S: high})
	checkElevate(t, low, low, low, api.Curve{P: low, Q: low, R: low, S: low})
	const third = 366503875925 // of 2^40, and a third more
	checkElevate(t, high, low, high, api.Curve{P: high, Q: p(-third, -third), R: p(-third, -third), S: high})
	checkElevate(t, low, high, low, api.Curve{P: low, Q: p(third, third), R: p(third, third), S: low})
	checkElevate(t, low, p(0, 0), high, api.Curve{P: low, Q: p(-third, -third), R: p(third, third), S: high})
	ends := []int64{bound, bound - 1, bound - 2, 2 - bound, 1 - bound, -bound, 0}
	for _, a := range ends {
		for _, b := range ends {
			for _, c := range ends {
				first, second, last := p(a, -b), p(b, c), p(c, a)
				want := wordsElevate(first, second, last)
				checkElevate(t, first, second, last, want)
				if !Right(want) {
					t.Error(want)
				}
			}
		}
	}
}

// wordsQuad is a number of a quadratic at t / 2^16, times 2^32.
func wordsQuad(a, b, c, t int64) *big.Int {
	s := one - t
	n := sum(a, s*s, b, 2*s*t)
	return n.Add(n, new(big.Int).Mul(big.NewInt(c), big.NewInt(t*t)))
}

// The curve goes where the quadratic goes: within 2, by a half for the handles, and a half for each of At's steps.
func TestP11_2ElevateIsTheQuadratic(t *testing.T) {
	var mix mixer
	near := func(n int64, exact *big.Int) bool {
		off := new(big.Int).Lsh(big.NewInt(n), 32)
		return off.Sub(off, exact).CmpAbs(big.NewInt(2<<32)) <= 0
	}
	for range 100000 {
		a, b, c, at := mix.point(), mix.point(), mix.point(), mix.t()
		e := Elevate(a, b, c)
		if e != wordsElevate(a, b, c) || !Right(e) {
			t.Fatal(a, b, c, e)
		}
		q := At(e, at)
		if !near(q.X, wordsQuad(a.X, b.X, c.X, at)) || !near(q.Y, wordsQuad(a.Y, b.Y, c.Y, at)) {
			t.Fatal(a, b, c, at, q)
		}
	}
}
