package curve

import (
	"testing"

	"pointillist/api"
)

func checkFlat(t *testing.T, c api.Curve, flat bool) {
	t.Helper()
	if Flat(c) != flat {
		t.Error(c, "want", flat)
	}
	if Flat(Back(c)) != flat {
		t.Error("backwards", c, "want", flat)
	}
	if wordsFlat(c) != flat {
		t.Error("by the words", c, "want", flat)
	}
}

// even are numbers of which each of the two sums is 0.
func even(first, step int64) [4]int64 {
	return [4]int64{first, first + step, first + 2*step, first + 3*step}
}

// bases are where a curve may lie that bends a little, up to the bounds.
func bases() [][4]int64 {
	return [][4]int64{
		even(0, 0), even(0, 10), even(0, -10), even(7, 1<<30), even(-3*one, 1<<38), even(bound-1024, 0), even(1024-bound, 0),
		even(1024-bound, 1<<39), even(bound-1024, -1<<39),
	}
}

// Each of the four sums, of P, Q and R and of Q, R and S, in X and in Y, the other ones within.
func TestP11_1FlatByEachSum(t *testing.T) {
	for axis := range 2 {
		for _, end := range []int{0, 3} {
			for _, base := range bases() {
				for _, rest := range bases() {
					for _, n := range []int64{0, 1, -1, 511, -511, 512, -512} {
						l := base
						l[end] += n
						checkFlat(t, along(axis, l, rest), true)
					}
					for _, n := range []int64{513, -513, 514, -514, 1023, -1023, 1024, -1024} {
						l := base
						l[end] += n
						checkFlat(t, along(axis, l, rest), false)
					}
				}
			}
		}
	}
}

// A number in the middle counts in both sums, twice in one of them.
func TestP11_1FlatByTheMiddle(t *testing.T) {
	for axis := range 2 {
		for _, at := range []int{1, 2} {
			for _, base := range bases() {
				for n, flat := range map[int64]bool{
					0: true, 255: true, -255: true, 256: true, -256: true, 257: false, -257: false, 512: false, -512: false,
				} {
					l := base
					l[at] += n
					checkFlat(t, along(axis, l, [4]int64{}), flat)
					checkFlat(t, along(axis, l, l), flat)
				}
			}
		}
	}
}

// All four sums at the ends of what may be, and one of them beyond.
func TestP11_1FlatByAllSums(t *testing.T) {
	bent := func(a, b int64) [4]int64 { // the sums are a and b
		return [4]int64{a, 0, 0, b}
	}
	for _, a := range []int64{512, -512} {
		for _, b := range []int64{512, -512} {
			for _, c := range []int64{512, -512} {
				for _, d := range []int64{512, -512} {
					checkFlat(t, along(0, bent(a, b), bent(c, d)), true)
					checkFlat(t, along(0, bent(a+a/512, b), bent(c, d)), false)
					checkFlat(t, along(0, bent(a, b+b/512), bent(c, d)), false)
					checkFlat(t, along(0, bent(a, b), bent(c+c/512, d)), false)
					checkFlat(t, along(0, bent(a, b), bent(c, d+d/512)), false)
				}
			}
		}
	}
}

func TestP11_1FlatAtTheBounds(t *testing.T) {
	for axis := range 2 {
		for _, sign := range []int64{1, -1} {
			for _, c := range []struct {
				l    [4]int64
				flat bool
			}{
				{[4]int64{bound, bound, bound, bound}, true},
				{[4]int64{bound, bound - 256, bound, bound}, true},
				{[4]int64{bound, bound - 257, bound, bound}, false},
				{[4]int64{bound, bound - 512, bound - 512, bound}, true},
				{[4]int64{bound, bound - 513, bound - 513, bound}, false},
				{[4]int64{bound, 0, -bound, -bound}, false},
				{[4]int64{bound, bound, 0, -bound}, false},
				{[4]int64{bound, -bound, bound, -bound}, false},
				{[4]int64{bound, -bound, -bound, bound}, false},
				{[4]int64{bound, 0, 0, bound}, false},
				{[4]int64{bound, 0, 0, 0}, false},
				{[4]int64{0, bound, 0, 0}, false},
				{[4]int64{0, 0, bound, 0}, false},
				{[4]int64{0, 0, 0, bound}, false},
				{[4]int64{1 << 32, 0, 0, 0}, false}, // round 2^32 it would be 0
				{[4]int64{0, 1 << 31, 0, 0}, false},
				{[4]int64{0, 0, 0, 1 << 16}, false},
			} {
				l := c.l
				for i := range l {
					l[i] *= sign
				}
				checkFlat(t, along(axis, l, [4]int64{}), c.flat)
				checkFlat(t, along(axis, l, [4]int64{-bound, -bound, -bound, -bound}), c.flat)
			}
		}
	}
}

// The example, and curves that stand off of a line by their handles alone.
func TestP11_1FlatOfTheExamples(t *testing.T) {
	checkFlat(t, api.Curve{}, true)
	checkFlat(t, curve(0, 0, 4, 0, 8, 0, 12, 0), true)
	checkFlat(t, curve(0, 0, 0, 0, 3*one, 0, 3*one, 0), false) // a straight line, but its handles are short
	checkFlat(t, curve(0, 0, one, one, 2*one, 0, 3*one, one), false)
	checkFlat(t, curve(one, 0, one, 36195, 36195, one, 0, one), false)
}

func TestP11_1FlatHoldsWithBigNumbers(t *testing.T) {
	var mix mixer
	count := map[bool]int{}
	for range 200000 {
		c := mix.curve()
		if mix.next()>>20&1 == 1 { // near to flat
			l, m := even(mix.number()/5, mix.number()/5), even(mix.number()/5, mix.number()/5)
			c = along(0, l, m)
			for _, n := range numbersOf(&c) {
				*n += int64(mix.next()>>31%601) - 300
			}
		}
		flat := wordsFlat(c)
		count[flat]++
		checkFlat(t, c, flat)
		if t.Failed() {
			return
		}
	}
	if count[true] < 5000 || count[false] < 5000 {
		t.Error("too few", count)
	}
}
