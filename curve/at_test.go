package curve

import (
	"math"
	"slices"
	"testing"

	"pointillist/api"
)

func checkAt(t *testing.T, c api.Curve, at int64, want api.Point) {
	t.Helper()
	if q := At(c, at); q != want {
		t.Error(c, at, q, "want", want)
	}
	if q := wordsAt(c, at, 0); q != want {
		t.Error("by the words", c, at, q, "want", want)
	}
}

func checkAtWords(t *testing.T, c api.Curve, at int64) {
	t.Helper()
	if q, want := At(c, at), wordsAt(c, at, 0); q != want {
		t.Error(c, at, q, "want", want)
	}
}

// times are those at and about the ends, and beyond.
func times() []int64 {
	return []int64{
		math.MinInt64, math.MinInt64 + 1, -1 << 62, -1 << 32, -one - 1, -one, 1 - one, -one / 2, -2, -1,
		0, 1, 2, one/2 - 1, one / 2, one/2 + 1, one - 2, one - 1, one,
		one + 1, one + 2, 2 * one, 3 * one / 2, 1<<32 - 1, 1 << 32, 1<<32 + one/2, 1 << 48, 1<<48 + one/2, 1 << 62, math.MaxInt64 - 1, math.MaxInt64,
	}
}

func TestP11_3AtTheEndsAndBeyond(t *testing.T) {
	for _, c := range []api.Curve{
		{}, curve(1, 2, 3, 4, 5, 6, 7, 8), curve(0, 0, 0, 8, 8, 8, 9, 1), curve(bound, -bound, bound, bound, -bound, -bound, -bound, bound),
		curve(-bound, 1-bound, 0, 0, 0, 0, bound-1, bound), curve(one, -one, -one, one, one, one, -one, -one),
	} {
		for _, at := range times() {
			switch {
			case at <= 0:
				checkAt(t, c, at, c.P)
			case at >= one:
				checkAt(t, c, at, c.S)
			default:
				checkAtWords(t, c, at)
			}
		}
	}
}

// Of points that stand evenly by 2^16 nothing has to be rounded.
func TestP11_3AtOfAnEvenCurve(t *testing.T) {
	c := curve(0, 0, one, -2*one, 2*one, -4*one, 3*one, -6*one)
	for at := int64(0); at <= one; at += 7 {
		checkAt(t, c, at, p(3*at, -6*at))
	}
	for _, at := range []int64{1, 2, one/2 - 1, one / 2, one/2 + 1, one - 2, one - 1} {
		checkAt(t, c, at, p(3*at, -6*at))
		high := curve(bound-3*one, 6*one-bound, bound-2*one, 4*one-bound, bound-one, 2*one-bound, bound, -bound)
		checkAt(t, high, at, p(bound-3*one+3*at, 6*one-bound-6*at))
	}
}

func TestP11_3AtOfTheExamples(t *testing.T) {
	c := curve(0, 0, 0, 8, 8, 8, 9, 1)
	checkAt(t, c, one/2, p(5, 7))
	checkAt(t, c, one/4, p(2, 5))   // 0, 2  2, 8  8.25, 6.25; then 0.5, 3.5  3.5, 7.5; then 1.75, 5
	checkAt(t, c, one*3/4, p(7, 5)) // 0, 6  6, 8  8.75, 2.75; then 4.5, 7.5  8.25, 4.25; then 7.25, 5
	checkAt(t, c, 1, p(0, 0))
	checkAt(t, c, one-1, p(9, 1))
	round := curve(one, 0, one, 36195, 36195, one, 0, one) // a quarter of a circle
	checkAt(t, round, one/2, p(46342, 46342))              // 46341.5
}

// halves tells of which steps, 1 to 3, a point would be another one, if halves went down there.
func halves(c api.Curve, at int64) (steps []int) {
	want := wordsAt(c, at, 0)
	for step := 1; step <= 3; step++ {
		if wordsAt(c, at, step) != want {
			steps = append(steps, step)
		}
	}
	return steps
}

// At each step, and of no other one, it hangs on a product that comes out at a half, above 0 (sign 1) or below it, what is told.
func TestP11_3AtOfProductsAtAHalf(t *testing.T) {
	for _, c := range []struct {
		at         int64
		step, sign int
		l          [4]int64
		want       int64
	}{
		{1, 1, 1, [4]int64{-131071, -32767, -98304, 32769}, -131067},
		{1, 1, -1, [4]int64{131072, -32768, -131072, 65536}, 131066},
		{1, 2, 1, [4]int64{-98305, 65537, 131071, 131071}, -98297},
		{1, 2, -1, [4]int64{131073, 32767, 1, 98304}, 131069},
		{1, 3, 1, [4]int64{-98304, -65535, -32767, -32767}, -98301},
		{1, 3, -1, [4]int64{98303, 65537, 0, 32767}, 98303},
		{one / 4, 1, 1, [4]int64{-2, -1, 1, -2}, -1},
		{one / 4, 1, -1, [4]int64{-1, -3, 2, -4}, -1},
		{one / 4, 2, 1, [4]int64{-2, 2, -3, 1}, 0},
		{one / 4, 2, -1, [4]int64{2, -2, 1, 3}, 1},
		{one / 4, 3, 1, [4]int64{-4, -4, 1, 3}, -3},
		{one / 4, 3, -1, [4]int64{4, 0, 0, 4}, 2},
		{one / 2, 1, 1, [4]int64{-4, -1, 4, 5}, 2},
		{one / 2, 1, -1, [4]int64{2, 1, 0, -3}, 1},
		{one / 2, 2, 1, [4]int64{-4, -2, -2, 3}, -1},
		{one / 2, 2, -1, [4]int64{-4, 3, -5, -3}, -1},
		{one / 2, 3, 1, [4]int64{-2, 2, 2, 2}, 2},
		{one / 2, 3, -1, [4]int64{-2, 1, -1, -3}, 0},
		{3 * one / 4, 1, 1, [4]int64{0, 3, 0, 2}, 2},
		{3 * one / 4, 1, -1, [4]int64{-2, 2, 3, -3}, 1},
		{3 * one / 4, 2, 1, [4]int64{0, 0, -5, -1}, -2},
		{3 * one / 4, 2, -1, [4]int64{-2, -3, 1, -3}, -1},
		{3 * one / 4, 3, 1, [4]int64{2, -4, 0, 3}, 1},
		{3 * one / 4, 3, -1, [4]int64{-2, 0, -1, -5}, -2},
		{one - 1, 1, 1, [4]int64{131072, 65535, -131072, 32768}, 32762},
		{one - 1, 1, -1, [4]int64{98304, 131071, 98304, -131072}, -131062},
		{one - 1, 2, 1, [4]int64{-1, 98305, 32767, 65537}, 65536},
		{one - 1, 2, -1, [4]int64{-98305, 98303, 98305, -1}, 4},
		{one - 1, 3, 1, [4]int64{1, -32769, 0, 32768}, 32767},
		{one - 1, 3, -1, [4]int64{-131071, 65537, 1, -98305}, -98299},
	} {
		for axis := range 2 {
			whole := along(axis, c.l, [4]int64{0, one, 2 * one, 3 * one}) // the other axis rounds nothing
			checkAt(t, whole, c.at, along(axis, [4]int64{c.want}, [4]int64{3 * c.at}).P)
			checkAt(t, along(axis, c.l, c.l), c.at, p(c.want, c.want))
			if l := halves(whole, c.at); !slices.Equal(l, []int{c.step}) {
				t.Error(c, l)
			}
			for _, off := range []int64{bound - 3*one, 3*one - bound} { // moved as a whole
				l := [4]int64{c.l[0] + off, c.l[1] + off, c.l[2] + off, c.l[3] + off}
				checkAt(t, along(axis, l, [4]int64{}), c.at, along(axis, [4]int64{c.want + off}, [4]int64{}).P)
			}
		}
	}
}

// All four numbers a little less, or more: of t 1 and 2^16 - 1 products come out next to a half then.
func TestP11_3AtOfProductsNextToAHalf(t *testing.T) {
	for _, at := range []int64{1, one - 1, one / 4, one / 2, 3 * one / 4} {
		for _, base := range [][4]int64{
			{0, one / 2, one, 3 * one / 2}, {0, -one / 2, -one, -3 * one / 2}, {0, 3 * one / 2, -one, one / 2}, {-one, one / 2, one / 2, 0},
		} {
			for k := range 5 * 5 * 5 * 5 {
				l := base
				for i := range l {
					l[i] += int64(k%5) - 2
					k /= 5
				}
				for axis := range 2 {
					checkAtWords(t, along(axis, l, base), at)
				}
			}
		}
	}
}

// All curves of small numbers on one axis, the other one's being others of them, by quarters.
func TestP11_3AtOfSmallNumbers(t *testing.T) {
	const n = 4
	for a := int64(-n); a <= n; a++ {
		for b := int64(-n); b <= n; b++ {
			for c := int64(-n); c <= n; c++ {
				for d := int64(-n); d <= n; d++ {
					for at := int64(0); at <= one; at += one / 4 {
						checkAtWords(t, curve(a, b, b, d, c, a, d, c), at)
					}
				}
			}
		}
	}
}

func TestP11_3AtTheBounds(t *testing.T) {
	ends := []int64{bound, bound - 1, 1 - bound, -bound}
	for k := range 1 << 8 {
		l := [4]int64{ends[k&3], ends[k>>2&3], ends[k>>4&3], ends[k>>6]}
		rest := [4]int64{l[2], l[3], l[0], l[1]}
		for _, at := range times() {
			c := along(0, l, rest)
			checkAtWords(t, c, at)
			if q := At(c, at); !Right(api.Curve{P: q}) {
				t.Error(c, at, q)
			}
		}
	}
}

func TestP11_3AtHoldsWithBigNumbers(t *testing.T) {
	count := [4]int{}
	var mix mixer
	for range 100000 {
		c, at := mix.curve(), mix.t()
		checkAtWords(t, c, at)
		for _, step := range halves(c, at) {
			count[step]++
		}
		if t.Failed() {
			return
		}
	}
	if min(count[1], count[2], count[3]) < 500 {
		t.Error("too few", count)
	}
}
