package vec

import (
	"testing"

	"pointillist/api"
	"pointillist/root"
	"pointillist/wide"
)

// diagonal is the root of one half, with 30 places.
const diagonal = 759250125

func TestP9_1Of(t *testing.T) {
	for _, c := range []struct{ x, y, dx, dy int64 }{
		{3, 4, 644245094, 858993459}, // the chapter's example
		{4, 3, 858993459, 644245094},
		{-3, 4, -644245094, 858993459},
		{3, -4, 644245094, -858993459},
		{-4, -3, -858993459, -644245094},
		{5, 12, 412977625, 991146299},
		{1, 1, diagonal, diagonal},
		{-1, 1, -diagonal, diagonal},
		{1, -1, diagonal, -diagonal},
		{-7, -7, -diagonal, -diagonal},
		{1 << 62, 1 << 62, diagonal, diagonal},
		{-1 << 62, -1 << 62, -diagonal, -diagonal},
		{1 << 62, 1, unit, 0},
		{-1, 1 << 62, 0, unit},
		{1 << 14, 1, unit - 2, 1 << 16}, // without doubling the Hypot would be too short
		{1 << 30, 1, unit, 1},
		{-1 << 30, -1, -unit, -1},
		{1<<31 - 1, 1, unit, 1}, // just more than a half
		{1<<31 - 1, -1, unit, -1},
		{1 << 31, 1, unit, 1}, // the Hypot is rounded down, so this is just a half
		{1 << 31, -1, unit, 0},
		{1<<31 + 1, 1, unit, 0}, // just less
		{1<<31 + 1, -1, unit, 0},
	} {
		want, ok := p(c.dx, c.dy), true
		if words, _ := wordsOf(c.x, c.y, 1<<60); words != want {
			t.Error("the table itself is wrong", c, words)
		}
		checkOf(t, c.x, c.y, want, ok)
	}
}

func TestP9_1OfOneNumberThatIsZero(t *testing.T) {
	for _, n := range []int64{1, 2, 3, 5, 7, 1 << 16, 1<<32 - 1, 1<<60 - 1, 1 << 60, 1<<60 + 1, 1<<61 - 1, 1 << 61, 1<<62 - 1, 1 << 62} {
		checkOf(t, n, 0, p(unit, 0), true)
		checkOf(t, -n, 0, p(-unit, 0), true)
		checkOf(t, 0, n, p(0, unit), true)
		checkOf(t, 0, -n, p(0, -unit), true)
	}
}

func TestP9_1OfWhatHasNoDirection(t *testing.T) {
	checkOf(t, 0, 0, api.Point{}, false)
	for _, far := range []int64{1<<62 + 1, -1<<62 - 1, most, most - 1, least, least + 1} {
		for _, n := range []int64{0, 1, -1, 7, 1 << 60, 1 << 62, -1 << 62, far, most, least} {
			checkOf(t, far, n, api.Point{}, false)
			checkOf(t, n, far, api.Point{}, false)
		}
	}
}

// Of quotients on a half the greater number is told; those of one more and one less, by the same Hypot, go their own way.
func TestP9_1OfRoundsToTheNearest(t *testing.T) {
	for _, k := range []int64{0, 1, 2, 1000, 12345678, 644245094, diagonal, 900000001, unit - 2} {
		for _, q := range []int64{1<<30 + 1, 1<<30 + 12345, 1<<30 + 1<<29 + 7} {
			h, x := q<<31, (2*k+1)*q // of h it is k and a half, with 30 places
			for _, c := range []struct{ x, want int64 }{
				{x, k + 1}, {x - 1, k}, {x + 1, k + 1},
				{-x, -k}, {-x - 1, -k - 1}, {-x + 1, -k},
			} {
				checkRounded(t, c.x, h, c.want)
			}
		}
	}
}

// checkRounded checks the number that x, of the Hypot h, becomes, as the first one and as the second one.
func checkRounded(t *testing.T, x, h, want int64) {
	t.Helper()
	y := beside(x, h)
	if wide.Within(1<<60+1, x, y) || root.Hypot(x, y) != uint64(h) {
		t.Fatal("no such numbers", x, y, h)
	}
	for _, other := range []int64{y, -y} {
		if d, ok := Of(x, other); !ok || d.X != want {
			t.Error(x, other, d, ok, "want", want)
		}
		if d, ok := Of(other, x); !ok || d.Y != want {
			t.Error(other, x, d, ok, "want", want)
		}
	}
}

// Where a quotient lies next to a half, one doubling more or less tells another number: so it is seen where they end.
func TestP9_1OfDoublesUpTo2To60(t *testing.T) {
	for _, c := range []struct {
		x, other int64   // were other the bound, x would be doubled once more, or once less
		first    []int64 // what x becomes, about
	}{
		{1<<60 - 1, 1<<60 - 2, []int64{unit / 1000 * 999, unit / 10 * 9, unit / 10 * 8, unit / 1000 * 708}},
		{1 << 60, 1<<60 - 1, []int64{unit / 1000 * 999, unit / 10 * 9, unit / 10 * 8, unit / 1000 * 708}},
		{1<<60 + 1, 1<<60 + 1, []int64{unit / 1000 * 999, unit / 10 * 9, unit / 10 * 8, unit / 1000 * 708}},
		{1<<60 + 1, 1 << 61, []int64{unit / 1000 * 707, unit / 10 * 6, unit / 10 * 5}}, // both are beyond the bound
	} {
		for _, first := range c.first {
			told := 0
			for k := range int64(50) {
				told += checkDoubled(t, c.x, lastOfHypot(c.x, nextToHalf(c.x, first-12345*k)), c.other)
			}
			if told < 50 {
				t.Error("too few tell anything", c.x, first, told)
			}
		}
	}
}

// nextToHalf is the Hypot that brings x to k and a half, or by less than 1 above that.
func nextToHalf(x, k int64) int64 {
	h := times(whole(x), whole(1<<31))
	return h.Div(h, whole(2*k+1)).Int64()
}

// lastOfHypot is the greatest number that gives x the Hypot h, so that of their doubles it is 2 h and 1.
func lastOfHypot(x, h int64) int64 {
	return beside(x, h+1) - 1
}

// checkDoubled checks all mirrors of the two, and counts those that another bound would tell otherwise.
func checkDoubled(t *testing.T, x, y, other int64) int {
	t.Helper()
	told := 0
	for _, q := range mirrors(x, y) {
		want, ok := wordsOf(q.X, q.Y, 1<<60)
		checkOf(t, q.X, q.Y, want, ok)
		if wrong, _ := wordsOf(q.X, q.Y, other); wrong != want {
			told++
		}
	}
	return told
}

func TestP9_1OfAboutItsBounds(t *testing.T) {
	var l []int64
	for _, s := range []int{0, 1, 29, 30, 31, 32, 58, 59, 60, 61, 62} {
		l = append(l, 1<<s-1, 1<<s, 1<<s+1)
	}
	for _, x := range l {
		for _, y := range l {
			for _, q := range mirrors(x, y) {
				want, ok := wordsOf(q.X, q.Y, 1<<60)
				checkOf(t, q.X, q.Y, want, ok)
			}
		}
	}
}

func TestP9_1OfHoldsWithBigNumbers(t *testing.T) {
	var mix mixer
	for range 50000 {
		x, y := mix.number(), mix.number()
		want, ok := wordsOf(x, y, 1<<60)
		checkOf(t, x, y, want, ok)
		if t.Failed() {
			return
		}
	}
}
