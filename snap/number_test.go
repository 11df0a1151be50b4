package snap

import (
	"math"
	"testing"

	"pointillist/api"
)

func checkNumber(t *testing.T, n, want int64) {
	t.Helper()
	if got := Number(n); got != want {
		t.Error(n, got, "want", want)
	}
}

func TestP14_1Number(t *testing.T) {
	for n, want := range map[int64]int64{
		0: 0, 1: 0, -1: 0, 1024: 1024, 1023: 1024, 1025: 1024, -1024: -1024, -1023: -1024, -1025: -1024, 65536: 65536, -65536: -65536,
		511: 0, 512: 1024, 513: 1024, -511: 0, -512: 0, -513: -1024,
		1535: 1024, 1536: 2048, 1537: 2048, -1535: -1024, -1536: -1024, -1537: -2048,
		1<<32 - 513: 1<<32 - 1024, 1<<32 - 512: 1 << 32, -1<<32 + 511: -1 << 32, -1<<32 + 512: -1<<32 + 1024,
	} {
		checkNumber(t, n, want)
	}
}

func TestP14_1NumberAtBothEnds(t *testing.T) {
	for n, want := range map[int64]int64{
		bound: bound, bound - 1: bound, bound - 512: bound, bound - 513: bound - 1024, bound - 1024: bound - 1024,
		-bound: -bound, -bound + 1: -bound, -bound + 511: -bound, -bound + 512: -bound + 1024, -bound + 1024: -bound + 1024,
	} {
		checkNumber(t, n, want)
	}
}

// Every place between two multiples, about several of them.
func TestP14_1NumberAtEveryPlace(t *testing.T) {
	for _, base := range []int64{-bound + 1536, -1 << 61, -1 << 32, -1 << 31, -1536, 0, 1536, 1 << 31, 1 << 32, 1 << 53, 1 << 61, bound - 1536} {
		for by := int64(-1536); by <= 1536; by++ {
			checkNumber(t, base+by, wordsNumber(base+by))
		}
	}
}

func TestP14_1NumbersOfAllSizes(t *testing.T) {
	for k := range 62 {
		for _, by := range []int64{-513, -512, -1, 0, 1, 511, 512} {
			for _, n := range []int64{1<<k + by, -(1 << k) + by, 3<<k>>1 + by, -(3 << k >> 1) + by} {
				checkNumber(t, n, wordsNumber(n))
			}
		}
	}
}

func TestP14_1Point(t *testing.T) {
	for _, c := range []struct{ q, want api.Point }{
		{p(0, 0), p(0, 0)}, {p(1024, -2048), p(1024, -2048)},
		{p(512, 511), p(1024, 0)}, {p(511, 512), p(0, 1024)}, {p(-513, -512), p(-1024, 0)}, {p(-512, -513), p(0, -1024)},
		{p(0, 700), p(0, 1024)}, {p(700, 0), p(1024, 0)}, {p(bound, -bound), p(bound, -bound)},
	} {
		if got := Point(c.q); got != c.want {
			t.Error(c.q, got, "want", c.want)
		}
	}
}

// Neither number of a point changes what comes of the other one.
func TestP14_1PointNumberByNumber(t *testing.T) {
	for _, x := range several() {
		for _, y := range several() {
			if got, want := Point(p(x, y)), wordsPoint(p(x, y)); got != want {
				t.Error(x, y, got, "want", want)
			}
		}
	}
}

func TestP14_3NumbersStayAndLieNear(t *testing.T) {
	check := func(n int64) {
		s := Number(n)
		checkNumber(t, s, s)
		if far(s, n) > 512 || s%1024 != 0 {
			t.Error(n, s, "too far, or not on the grid")
		}
	}
	for _, n := range several() {
		check(n)
	}
	for by := int64(-2048); by <= 2048; by++ {
		check(by)
		check(1<<40 + by)
		check(-1<<40 + by)
	}
}

// So far they go, and no farther; downwards it is one less.
func TestP14_3HowFar(t *testing.T) {
	var up, down int64
	for n := int64(-2048); n <= 2048; n++ {
		up, down = max(up, Number(n)-n), max(down, n-Number(n))
	}
	if up != 512 || down != 511 {
		t.Error(up, down)
	}
}

func TestP14_3PointsStayAndLieNear(t *testing.T) {
	for _, x := range several() {
		for _, y := range several() {
			s := Point(p(x, y))
			if again := Point(s); again != s || far(s.X, x) > 512 || far(s.Y, y) > 512 {
				t.Error(x, y, s, again)
			}
		}
	}
}

// Of what it makes of numbers beyond its bounds nothing is promised, but that it ends.
func TestR1NumbersBeyond(t *testing.T) {
	for _, n := range []int64{bound + 1, -bound - 1, math.MaxInt64 - 512, math.MaxInt64 - 511, math.MaxInt64, math.MinInt64} {
		Number(n)
		Point(p(n, n))
		Edge(edge(n, 0, 0, n))
		Edges(edge(n, n, 0, 0), edge(0, 0, n, -n))
	}
}
