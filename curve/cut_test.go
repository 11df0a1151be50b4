package curve

import (
	"slices"
	"testing"

	"pointillist/api"
)

func checkCut(t *testing.T, c, first, second api.Curve) {
	t.Helper()
	if a, b := Cut(c); a != first || b != second {
		t.Error(c, a, b, "want", first, second)
	}
}

// checkCutWords checks a cut by the chapter's words, and P11.4 of it.
func checkCutWords(t *testing.T, c api.Curve) {
	t.Helper()
	first, second := wordsCut(c, 0)
	checkCut(t, c, first, second)
	checkEnds(t, c)
}

func TestP11_1CutOfTheExamples(t *testing.T) {
	checkCut(t, curve(0, 0, 4, 0, 8, 0, 12, 0), curve(0, 0, 2, 0, 4, 0, 6, 0), curve(6, 0, 8, 0, 10, 0, 12, 0))
	checkCut(t, curve(0, 0, 0, 8, 8, 8, 9, 1), curve(0, 0, 0, 4, 2, 6, 5, 7), curve(5, 7, 7, 7, 9, 5, 9, 1))
	checkCut(t, api.Curve{}, api.Curve{}, api.Curve{})
	checkCut(t, curve(5, -7, 5, -7, 5, -7, 5, -7), curve(5, -7, 5, -7, 5, -7, 5, -7), curve(5, -7, 5, -7, 5, -7, 5, -7))
}

// Each of the six middles comes of an odd sum, above 0 and below it.
func TestP11_1CutOfOddSums(t *testing.T) {
	for _, c := range []struct{ l, first, second [4]int64 }{
		{[4]int64{0, 1, 1, 1}, [4]int64{0, 1, 1, 1}, [4]int64{1, 1, 1, 1}}, // a
		{[4]int64{0, -1, 1, -1}, [4]int64{0, 0, 0, 0}, [4]int64{0, 0, 0, -1}},
		{[4]int64{2, 1, 2, 2}, [4]int64{2, 2, 2, 2}, [4]int64{2, 2, 2, 2}},
		{[4]int64{-2, -1, -1, -1}, [4]int64{-2, -1, -1, -1}, [4]int64{-1, -1, -1, -1}},
		{[4]int64{0, 0, 1, 1}, [4]int64{0, 0, 1, 1}, [4]int64{1, 1, 1, 1}}, // b, seen in d and e
		{[4]int64{0, 0, -1, -3}, [4]int64{0, 0, 0, 0}, [4]int64{0, -1, -2, -3}},
		{[4]int64{4, 4, 3, 5}, [4]int64{4, 4, 4, 4}, [4]int64{4, 4, 4, 5}},
		{[4]int64{-4, -4, -3, -3}, [4]int64{-4, -4, -3, -3}, [4]int64{-3, -3, -3, -3}},
		{[4]int64{1, 1, 1, 2}, [4]int64{1, 1, 1, 2}, [4]int64{2, 2, 2, 2}}, // c
		{[4]int64{-1, -1, -1, -2}, [4]int64{-1, -1, -1, -1}, [4]int64{-1, -1, -1, -2}},
		{[4]int64{0, 0, 2, 2}, [4]int64{0, 0, 1, 2}, [4]int64{2, 2, 2, 2}}, // d and e
		{[4]int64{0, 0, -2, -2}, [4]int64{0, 0, 0, 0}, [4]int64{0, -1, -2, -2}},
		{[4]int64{2, 2, 0, 0}, [4]int64{2, 2, 2, 2}, [4]int64{2, 1, 0, 0}},
		{[4]int64{-2, -2, 0, 0}, [4]int64{-2, -2, -1, 0}, [4]int64{0, 0, 0, 0}},
		{[4]int64{2, 0, 0, 0}, [4]int64{2, 1, 1, 1}, [4]int64{1, 0, 0, 0}}, // d, and f then
		{[4]int64{-2, 0, 0, 0}, [4]int64{-2, -1, 0, 0}, [4]int64{0, 0, 0, 0}},
		{[4]int64{0, 0, 0, 2}, [4]int64{0, 0, 0, 1}, [4]int64{1, 1, 1, 2}}, // e, and f then
		{[4]int64{0, 0, 0, -2}, [4]int64{0, 0, 0, 0}, [4]int64{0, 0, -1, -2}},
		{[4]int64{0, 0, 0, 4}, [4]int64{0, 0, 0, 1}, [4]int64{1, 1, 2, 4}}, // f alone
		{[4]int64{0, 0, 0, -4}, [4]int64{0, 0, 0, 0}, [4]int64{0, -1, -2, -4}},
		{[4]int64{4, 0, 0, 0}, [4]int64{4, 2, 1, 1}, [4]int64{1, 0, 0, 0}},
		{[4]int64{-4, 0, 0, 0}, [4]int64{-4, -2, -1, 0}, [4]int64{0, 0, 0, 0}},
		{[4]int64{0, 0, 0, 12}, [4]int64{0, 0, 0, 2}, [4]int64{2, 3, 6, 12}},
		{[4]int64{0, 0, 0, -12}, [4]int64{0, 0, 0, -1}, [4]int64{-1, -3, -6, -12}},
	} {
		for axis := range 2 {
			zero, other := [4]int64{}, [4]int64{80, 40, 80, -40}
			checkCut(t, along(axis, c.l, zero), along(axis, c.first, zero), along(axis, c.second, zero))
			checkCut(t, along(axis, c.l, other),
				along(axis, c.first, [4]int64{80, 60, 60, 50}), along(axis, c.second, [4]int64{50, 40, 20, -40}))
			checkCut(t, along(axis, c.l, c.l), along(axis, c.first, c.first), along(axis, c.second, c.second))
		}
	}
}

// All curves of small numbers on one axis, the other one's being others of them.
func TestP11_1CutOfSmallNumbers(t *testing.T) {
	const n = 5
	for a := int64(-n); a <= n; a++ {
		for b := int64(-n); b <= n; b++ {
			for c := int64(-n); c <= n; c++ {
				for d := int64(-n); d <= n; d++ {
					checkCutWords(t, curve(a, b, b, d, c, a, d, c))
				}
			}
		}
		if t.Failed() {
			return
		}
	}
}

// halvesOf tells of which steps, 1 to 3, a cut would be another one, if halves went down there.
func halvesOf(c api.Curve) (steps []int) {
	first, second := wordsCut(c, 0)
	for step := 1; step <= 3; step++ {
		if a, b := wordsCut(c, step); a != first || b != second {
			steps = append(steps, step)
		}
	}
	return steps
}

// signOf is 1 of numbers that are all 0 or more, -1 of such that are all 0 or less, 0 of others.
func signOf(l ...int64) int {
	switch {
	case slices.Min(l) >= 0:
		return 1
	case slices.Max(l) <= 0:
		return -1
	}
	return 0
}

// Whichever step alone has sums that are odd, above 0, below it and about it.
func TestP11_1CutOfOneStepThatRounds(t *testing.T) {
	count := map[[2]int]int{}
	var mix mixer
	for range 100000 {
		l := [4]int64{mix.number(), mix.number(), mix.number(), mix.number()}
		c := along(int(mix.next()>>40&1), l, [4]int64{})
		checkCutWords(t, c)
		if steps := halvesOf(c); len(steps) == 1 {
			count[[2]int{steps[0], signOf(l[:]...)}]++
		}
		if t.Failed() {
			return
		}
	}
	for step := 1; step <= 3; step++ {
		for _, sign := range []int{1, 0, -1} {
			if count[[2]int{step, sign}] < 20 {
				t.Error("too few", step, sign, count)
			}
		}
	}
}

// Each of the eight numbers is any of four that lie there.
func TestP11_1CutAtTheBounds(t *testing.T) {
	checkCut(t, curve(bound, -bound, bound, -bound, bound, -bound, bound, -bound),
		curve(bound, -bound, bound, -bound, bound, -bound, bound, -bound), curve(bound, -bound, bound, -bound, bound, -bound, bound, -bound))
	checkCut(t, curve(bound, -bound, -bound, bound, bound, -bound, -bound, bound),
		curve(bound, -bound, 0, 0, 0, 0, 0, 0), curve(0, 0, 0, 0, 0, 0, -bound, bound))
	checkCut(t, curve(bound, 1-bound, bound-1, -bound, bound-1, -bound, bound, 1-bound),
		curve(bound, 1-bound, bound, 1-bound, bound, 1-bound, bound, 1-bound),
		curve(bound, 1-bound, bound, 1-bound, bound, 1-bound, bound, 1-bound))
	ends := []int64{bound, bound - 1, 1 - bound, -bound}
	for k := range 1 << 16 {
		var c api.Curve
		for i, n := range numbersOf(&c) {
			*n = ends[k>>(2*i)&3]
		}
		checkCutWords(t, c)
		if t.Failed() {
			return
		}
	}
}
