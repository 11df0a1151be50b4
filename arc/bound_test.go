package arc

import (
	"math"
	"slices"
	"testing"

	"pointillist/api"
)

// moved is a point, moved by d on one axis: 0 is X, 1 is Y.
func moved(q api.Point, axis int, d int64) api.Point {
	if axis == 0 {
		q.X += d
	} else {
		q.Y += d
	}
	return q
}

func on(q api.Point, axis int) int64 {
	if axis == 0 {
		return q.X
	}
	return q.Y
}

// outmost is the number that lies farthest out on that axis, towards sign, and which of a cubic's four points have it.
func outmost(l []api.Curve, axis int, sign int64) (n int64, has [4]bool) {
	best := int64(math.MinInt64)
	for _, c := range l {
		for k, q := range points(c) {
			v := sign * on(q, axis)
			if v > best {
				best, has = v, [4]bool{}
			}
			if v == best {
				has[k] = true
			}
		}
	}
	return sign * best, has
}

// checkAt moves an arc so that its outmost number comes to n: whatever is moved by whole numbers moves all its points alike.
func checkAt(t *testing.T, from api.Point, g api.Segment, axis int, sign, n int64) {
	t.Helper()
	out, _ := outmost(wordsCurves(from, g), axis, sign)
	from = moved(from, axis, n-out)
	g.To = moved(g.To, axis, n-out)
	if now, _ := outmost(wordsCurves(from, g), axis, sign); now != n {
		t.Fatal("it didn't come there", from, g, axis, now, n)
	}
	l, e := Curves(from, g)
	if far := max(n, -n) >= bound; far && (e != api.ErrRange || len(l) != 0) || !far && (e != api.OK || len(l) == 0) {
		t.Fatal(from, g, axis, n, len(l), e)
	}
	if len(pieces(from, g)) == 0 { // these are told all the same
		t.Fatal(from, g)
	}
	checkWords(t, from, g)
}

// fits asks whether cubics lie within the bound, and do so still where one side is moved there.
func fits(l []api.Curve) bool {
	for axis := range 2 {
		high, _ := outmost(l, axis, 1)
		low, _ := outmost(l, axis, -1)
		if high-low >= bound {
			return false
		}
	}
	return !far(l)
}

// inner asks whether both ends stay within the bound where the outmost number comes to it, and a bit beyond.
func inner(from, to api.Point, axis int, sign, out int64) bool {
	return sign*(out-on(from, axis)) > 2 && sign*(out-on(to, axis)) > 2
}

// which tells whether the outmost number is Q's alone (1), R's alone (2), that of points where cubics meet (0), or another (3).
func which(has [4]bool) int {
	switch {
	case has == [4]bool{1: true}:
		return 1
	case has == [4]bool{2: true}:
		return 2
	case has[0] && has[3]:
		return 0
	}
	return 3
}

// Each of the four points of a cubic comes to the bound, on either axis, both ways: Q or R alone, and P and S where cubics meet.
func TestP10_1NumbersAtTheBound(t *testing.T) {
	const enough = 40
	var mix mixer
	for axis := range 2 {
		for _, sign := range []int64{1, -1} {
			count := [4]int{3: enough}
			for range 10000 {
				from, g := mix.curved(1 + mix.next()%28)
				l := wordsCurves(from, g)
				out, has := outmost(l, axis, sign)
				kind := which(has)
				if count[kind] == enough || !fits(l) || !inner(from, g.To, axis, sign, out) {
					continue
				}
				count[kind]++
				for d := int64(-1); d <= 2; d++ {
					checkAt(t, from, g, axis, sign, sign*(bound-1+d))
				}
			}
			if slices.Min(count[:]) < enough {
				t.Error("too few", axis, sign, count)
			}
		}
	}
}

// By hand: half circles whose joints, and quarters whose handles, lie there.
func TestP10_1HalfCirclesAtTheBound(t *testing.T) {
	for _, c := range []struct {
		from, to api.Point
		sweep    bool
		e        api.Errno
	}{
		{p(0, bound-1-one), p(2*one, bound-1-one), false, api.OK},
		{p(0, bound-one), p(2*one, bound-one), false, api.ErrRange},
		{p(0, bound-one), p(2*one, bound-one), true, api.OK}, // the other way it goes inwards
		{p(2*one, one-bound+1), p(0, one-bound+1), false, api.OK},
		{p(2*one, one-bound), p(0, one-bound), false, api.ErrRange},
		{p(2*one, one-bound), p(0, one-bound), true, api.OK},
		{p(bound-1-one, 2*one), p(bound-1-one, 0), false, api.OK},
		{p(bound-one, 2*one), p(bound-one, 0), false, api.ErrRange},
		{p(bound-one, 2*one), p(bound-one, 0), true, api.OK},
		{p(one-bound+1, 0), p(one-bound+1, 2*one), false, api.OK},
		{p(one-bound, 0), p(one-bound, 2*one), false, api.ErrRange},
		{p(one-bound, 0), p(one-bound, 2*one), true, api.OK},
	} {
		for _, large := range []bool{false, true} {
			g := arc(c.to, one, one, 0, large, c.sweep)
			if l, e := Curves(c.from, g); e != c.e || (len(l) == 0) != (e != api.OK) {
				t.Error(c.from, g, len(l), e, "want", c.e)
			}
			checkWords(t, c.from, g)
		}
	}
	if l, e := Curves(p(65000*one, 0), arc(p(65000*one, 10*one), 60000*one, 60000*one, 0, true, true)); e != api.ErrRange || len(l) != 0 {
		t.Error(l, e)
	}
	// A radius that is made longer along the other one may be far beyond.
	for _, large := range []bool{false, true} {
		g := arc(p(0, -furthest), furthest, 256, 0, large, true)
		if l, e := Curves(p(0, furthest), g); e != api.ErrRange || len(l) != 0 {
			t.Error(l, e)
		}
		checkWords(t, p(0, furthest), g)
	}
}

// The first cubic begins at P, the last one ends at To: what rounding makes of these isn't looked at, even if it lies beyond the bound.
func TestP10_1EndsAtTheBound(t *testing.T) {
	var mix mixer
	first, last, corners := 0, 0, 0
	for range 20000 {
		from, g := mix.curved(1 + mix.next()%24)
		w := wordsArc(from, g)
		begin, end := w.point(w.first.X, w.first.Y), w.point(w.last.X, w.last.Y)
		l := wordsCurves(from, g)
		if !fits(l) {
			continue
		}
		for axis := range 2 {
			for _, sign := range []int64{1, -1} {
				out, _ := outmost(l, axis, sign)
				atFrom := on(from, axis) == out && sign*(on(begin, axis)-out) > 0
				atTo := on(g.To, axis) == out && sign*(on(end, axis)-out) > 0
				if atFrom && first < 500 || atTo && last < 500 {
					checkAt(t, from, g, axis, sign, sign*furthest)
					if atFrom {
						first++
					}
					if atTo {
						last++
					}
				}
			}
		}
		if begin != from && end != g.To {
			corners++
		}
	}
	if min(first, last) < 100 || corners < 1000 {
		t.Error("too few", first, last, corners)
	}
	for _, q := range []api.Point{p(furthest, furthest), p(-furthest, furthest), p(furthest, -furthest), p(-furthest, -furthest)} {
		for _, to := range []api.Point{p(0, 0), p(-q.X, -q.Y), p(q.X, -q.Y), p(-q.X, q.Y)} {
			for _, g := range fourWays(to, furthest, furthest, 0) {
				checkWords(t, q, g)
				checkWords(t, to, arc(q, g.Rx, g.Ry, 45*one, g.Large, g.Sweep))
			}
		}
	}
}

// Numbers that the chapter leaves out have no answer that is told, but an end.
func TestR1NothingPanics(t *testing.T) {
	l := []int64{math.MinInt64, math.MinInt64 + 1, -1 << 62, -bound, -1, 0, 255, 256, one, bound, 1 << 62, math.MaxInt64}
	var mix mixer
	pick := func() int64 { return l[mix.next()>>9%uint64(len(l))] }
	for range 20000 {
		from := p(pick(), pick())
		g := arc(p(pick(), pick()), pick(), pick(), pick(), mix.bool(), mix.bool())
		g.Kind, g.C1, g.C2 = int(pick()), p(pick(), pick()), p(pick(), pick())
		if n := Shape(from, g); n < Nothing || n > Curved {
			t.Fatal(from, g, n)
		}
		if l, e := Curves(from, g); len(l) > 5 || e != api.OK && len(l) > 0 {
			t.Fatal(from, g, l, e)
		}
		if n := len(pieces(from, g)); n > 5 {
			t.Fatal(from, g, n)
		}
	}
}
