package curve

import (
	"math"
	"testing"

	"pointillist/api"
)

func inside() []int64 {
	return []int64{0, 1, -1, 1<<32 - 1, 1 << 32, -1 << 32, bound - 1, bound, 1 - bound, -bound}
}

func outside() []int64 {
	return []int64{
		bound + 1, -bound - 1, bound + 2, -bound - 2, 1 << 41, -1 << 41, 1 << 62, -1 << 62,
		math.MaxInt64, math.MaxInt64 - 1, math.MinInt64, math.MinInt64 + 1,
	}
}

func TestP11_1RightNumberByNumber(t *testing.T) {
	for i := range 8 {
		for _, others := range []int64{0, bound, -bound} {
			var c api.Curve
			for _, n := range numbersOf(&c) {
				*n = others
			}
			for _, n := range inside() {
				*numbersOf(&c)[i] = n
				if !Right(c) {
					t.Error(c)
				}
			}
			for _, n := range outside() {
				*numbersOf(&c)[i] = n
				if Right(c) {
					t.Error(c)
				}
			}
		}
	}
}

func TestP11_1RightOfSeveralWrongOnes(t *testing.T) {
	if !Right(api.Curve{}) {
		t.Error("of zeroes")
	}
	for _, n := range outside() {
		for _, c := range []api.Curve{
			curve(n, n, n, n, n, n, n, n), curve(n, -n, n, -n, n, -n, n, -n), curve(n, 0, 0, 0, 0, 0, 0, -n), curve(0, 0, n, 0, -n, 0, 0, 0),
		} {
			if Right(c) {
				t.Error(c)
			}
		}
	}
}

// Of curves that aren't right the chapter promises nothing of the other calls: they end all the same.
func TestR1NothingPanics(t *testing.T) {
	l := append(inside(), outside()...)
	var mix mixer
	pick := func() int64 { return l[mix.next()>>9%uint64(len(l))] }
	for range 20000 {
		c := curve(pick(), pick(), pick(), pick(), pick(), pick(), pick(), pick())
		if Right(c) != wordsRight(c) {
			t.Fatal(c)
		}
		Cut(c)
		Flat(c)
		Elevate(c.P, c.Q, c.S)
		At(c, pick())
		if Back(Back(c)) != c {
			t.Fatal(c)
		}
	}
}

func TestP11_1Back(t *testing.T) {
	if c := Back(curve(1, 2, 3, 4, 5, 6, 7, 8)); c != curve(7, 8, 5, 6, 3, 4, 1, 2) {
		t.Error(c)
	}
	if c := Back(curve(bound, -bound, 1, 2, 3, 4, -bound, bound-1)); c != curve(-bound, bound-1, 3, 4, 1, 2, bound, -bound) {
		t.Error(c)
	}
	var mix mixer
	for range 10000 {
		c := mix.curve()
		b := Back(c)
		if b != (api.Curve{P: c.S, Q: c.R, R: c.Q, S: c.P}) || Back(b) != c || Flat(b) != Flat(c) || !Right(b) {
			t.Fatal(c, b)
		}
	}
}
