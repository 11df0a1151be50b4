package arc

import (
	"slices"
	"testing"

	"pointillist/api"
	"pointillist/trig"
	"pointillist/vec"
)

// cubics are those whose points' numbers are told one behind the other, without the points at which the one ahead ends.
func cubics(n ...int64) []api.Curve {
	var l []api.Curve
	for ; len(n) >= 8; n = n[6:] {
		l = append(l, api.Curve{P: p(n[0], n[1]), Q: p(n[2], n[3]), R: p(n[4], n[5]), S: p(n[6], n[7])})
	}
	return l
}

func checkCurves(t *testing.T, from api.Point, g api.Segment, want []api.Curve) {
	t.Helper()
	l, e := Curves(from, g)
	if e != api.OK || !slices.Equal(l, want) {
		t.Error(from, g, l, e, "want", want)
	}
	if n := Shape(from, g); n != Curved {
		t.Error(from, g, "Shape", n)
	}
	checkWords(t, from, g)
}

// Behind the half circle a piece of no length is told where Large holds: two quarters are gone ahead of looking.
func TestP10_1HalfACircle(t *testing.T) {
	up := []int64{131072, 0, 131072, -36195, 101731, -65536, 65536, -65536, 29341, -65536, 0, -36195, 0, 0}
	down := []int64{131072, 0, 131072, 36195, 101731, 65536, 65536, 65536, 29341, 65536, 0, 36195, 0, 0}
	none := []int64{0, 0, 0, 0, 0, 0}
	for _, c := range []struct {
		large, sweep bool
		want         []int64
	}{
		{false, false, up}, {false, true, down},
		{true, false, slices.Concat(up, none)}, {true, true, slices.Concat(down, none)},
	} {
		checkCurves(t, p(2*one, 0), arc(p(0, 0), one, one, 0, c.large, c.sweep), cubics(c.want...))
	}
}

func TestP10_1AQuarterOfACircleAndTheRest(t *testing.T) {
	for _, c := range []struct {
		large, sweep bool
		want         []int64
	}{
		{false, false, []int64{65536, 0, 29341, 0, 0, 29341, 0, 65536}},
		{false, true, []int64{65536, 0, 65536, 36195, 36195, 65536, 0, 65536}},
		{true, false, []int64{65536, 0, 65536, -36195, 36195, -65536, 0, -65536, -36195, -65536, -65536, -36195, -65536, 0,
			-65536, 36195, -36195, 65536, 0, 65536, 0, 65536, 0, 65536, 0, 65536}},
		{true, true, []int64{65536, 0, 101731, 0, 131072, 29341, 131072, 65536, 131072, 101731, 101731, 131072, 65536, 131072,
			29341, 131072, 0, 101731, 0, 65536, 0, 65536, 0, 65536, 0, 65536}},
	} {
		checkCurves(t, p(one, 0), arc(p(0, one), one, one, 0, c.large, c.sweep), cubics(c.want...))
	}
}

func TestP10_1AnEllipseThatIsTurned(t *testing.T) {
	for _, c := range []struct {
		large, sweep bool
		want         []int64
	}{
		{false, false, []int64{262144, 65536, 162267, 27327, 70507, 56022, 57194, 129628, 53448, 150341, 56304, 173274, 65536, 196608}},
		{false, true, []int64{262144, 65536, 294951, 148459, 244313, 214695, 149042, 213478, 122233, 213136, 93641, 207360, 65536, 196608}},
		{true, false, []int64{262144, 65536, 229337, -17387, 125511, -85596, 30239, -86812, -65031, -88030, -115669, -21794,
			-82863, 61130, -60374, 117974, -2931, 170416, 65536, 196608}},
		{true, true, []int64{262144, 65536, 362022, 103745, 432197, 194388, 418884, 267994, 405572, 341600, 313812, 370295,
			213934, 332086, 145468, 305894, 88025, 253452, 65536, 196608}},
	} {
		checkCurves(t, p(4*one, one), arc(p(one, 3*one), 3*one, 2*one, 30*one, c.large, c.sweep), cubics(c.want...))
	}
}

// Radii that are too short are made longer, both by as much, till half the ellipse is just enough.
func TestP10_1RadiiThatAreTooShort(t *testing.T) {
	below := []int64{0, 0, -54292, 90486, -39621, 163840, 32768, 163840, 105157, 163840, 207852, 90487, 262144, 0}
	above := []int64{0, 0, 54292, -90487, 156987, -163840, 229376, -163840, 301765, -163840, 316436, -90486, 262144, 0}
	for _, c := range []struct {
		large, sweep bool
		want         []int64
	}{
		{false, false, below}, {false, true, above},
		{true, false, slices.Concat(below, []int64{262146, -2, 262143, 3, 262144, 0})}, // k isn't 0, for rounding
		{true, true, slices.Concat(above, []int64{262143, 3, 262146, -2, 262144, 0})},
	} {
		checkCurves(t, p(0, 0), arc(p(4*one, 0), one, one/2, -45*one, c.large, c.sweep), cubics(c.want...))
	}
}

// joints are where cubics meet.
func joints(l []api.Curve) []api.Point {
	var told []api.Point
	for _, c := range l[1:] {
		told = append(told, c.P)
	}
	return told
}

// Of a radius of 2^30 the l is half the way itself.
func TestP10_1RadiiThatAreJustLongEnoughAndJustTooShort(t *testing.T) {
	const off = 46340 // the centre lies so far off of a chord that is shorter by 2, the root of 2^31
	for _, c := range []struct {
		reach        int64
		large, sweep bool
		want         []api.Point
	}{
		{unit, false, true, []api.Point{p(0, unit)}},
		{unit, false, false, []api.Point{p(0, -unit)}},
		{unit, true, true, []api.Point{p(0, unit), p(-unit, 0)}},
		{unit, true, false, []api.Point{p(0, -unit), p(-unit, 0)}},
		{unit + 1, false, true, []api.Point{p(0, unit+1)}},
		{unit + 1, false, false, []api.Point{p(0, -unit-1)}},
		{unit + 1, true, true, []api.Point{p(0, unit+1), p(-unit-1, 0)}},
		{unit + 1, true, false, []api.Point{p(0, -unit-1), p(-unit-1, 0)}},
		{unit - 1, false, true, []api.Point{p(-off, unit-1-off)}},
		{unit - 1, false, false, []api.Point{p(-off, off+1-unit)}},
		{unit - 1, true, true, []api.Point{p(off, unit-1+off), p(1-unit, 2*off)}},
		{unit - 1, true, false, []api.Point{p(off, 1-unit-off), p(1-unit, -2*off)}},
	} {
		g := arc(p(-c.reach, 0), unit, unit, 0, c.large, c.sweep)
		from := p(c.reach, 0)
		l, e := Curves(from, g)
		if e != api.OK || !slices.Equal(joints(l), c.want) {
			t.Error(c.reach, c.large, c.sweep, joints(l), "want", c.want)
		}
		checkWords(t, from, g)
		for _, turn := range []int64{30 * one, 90 * one, -123 * one} {
			checkWords(t, from, arc(g.To, unit, unit, turn, c.large, c.sweep))
		}
	}
}

// At l itself, whatever radii and turn it comes of.
func TestP10_1AboutTheLongestChord(t *testing.T) {
	var mix mixer
	count := map[int64]int{}
	for range 100000 {
		d := mix.direction()
		reach := unit + mix.number(2)
		from := p(over(unit, [2]int64{d.X, reach}), over(unit, [2]int64{d.Y, reach}))
		g := arc(p(-from.X, -from.Y), unit, unit, mix.number(32), mix.bool(), mix.bool())
		l := wordsLengths(from, g).l - unit
		count[l]++
		if count[l] <= 200 {
			checkWords(t, from, g)
		}
	}
	for l := int64(-2); l <= 2; l++ {
		if count[l] < 200 {
			t.Error("too few", l, count)
		}
	}
}

func TestP10_1Degrees(t *testing.T) {
	from, to := p(4*one, one), p(one, 3*one)
	for d := int64(-800); d <= 800; d += 5 {
		for _, g := range fourWays(to, 3*one, 2*one, d*one) {
			checkWords(t, from, g)
		}
	}
	for _, d := range []int64{0, 1, -1, 45 * one, 90 * one, 180 * one, 270 * one, 360 * one, 36000 * one, furthest} {
		for _, turn := range []int64{d - 1, d, 1 - d, -d} {
			if turn > furthest {
				continue
			}
			for _, g := range fourWays(to, 3*one, 2*one, turn) {
				checkWords(t, from, g)
			}
		}
	}
}

// Whole turns make no difference, and half ones none but which end of the ellipse the pieces are told from.
func TestP10_1WholeTurns(t *testing.T) {
	from, to := p(4*one, one), p(one, 3*one)
	for _, d := range []int64{0, 30, 90, 123, 180, 270, 359} {
		for k, g := range fourWays(to, 3*one, 2*one, d*one) {
			want, _ := Curves(from, g)
			for _, turns := range []int64{-181, -2, -1, 1, 2, 180} {
				other := fourWays(to, 3*one, 2*one, (d+360*turns)*one)[k]
				if l, e := Curves(from, other); e != api.OK || !slices.Equal(l, want) || len(l) == 0 {
					t.Error(d, turns, l, e, "want", want)
				}
			}
		}
	}
	for k := range ways() { // by a quarter the radii change places
		lying, _ := Curves(from, fourWays(to, 3*one, 2*one, 0)[k])
		standing, _ := Curves(from, fourWays(to, 2*one, 3*one, 90*one)[k])
		other, _ := Curves(from, fourWays(to, 2*one, 3*one, -90*one)[k])
		if !about(lying, standing) || !about(lying, other) {
			t.Error(lying, standing, other)
		}
	}
}

// about asks whether cubics are the same, but for rounding.
func about(l, m []api.Curve) bool {
	if len(l) != len(m) || len(l) == 0 {
		return false
	}
	for i := range l {
		a, b := points(l[i]), points(m[i])
		for k := range a {
			if max(a[k].X-b[k].X, b[k].X-a[k].X, a[k].Y-b[k].Y, b[k].Y-a[k].Y) > 2 {
				return false
			}
		}
	}
	return true
}

// From an end that is w degrees ahead of To, round the circle about 0, 0 (the circle's own degrees, which go the way that Sweep does).
func TestP10_1ByTheAngle(t *testing.T) {
	const radius = 1000 * one
	at := func(degrees int64) api.Point {
		sin, cos := trig.Both(degrees * one)
		return p(over(unit, [2]int64{cos, radius}), over(unit, [2]int64{sin, radius}))
	}
	for _, c := range []struct {
		angle int64
		count int
	}{
		{1, 1}, {30, 1}, {89, 1}, {91, 2}, {120, 2}, {179, 2}, {181, 3}, {200, 3}, {269, 3}, {271, 4}, {300, 4}, {358, 4}, {359, 4},
	} {
		for _, start := range []int64{0, 17, 45, 90, 200, 355} {
			for _, sweep := range []bool{true, false} {
				from, to := at(start), at(start+c.angle)
				if !sweep {
					from, to = to, from
				}
				g := arc(to, radius, radius, 0, c.angle > 180, sweep)
				checkWords(t, from, g)
				l, _ := Curves(from, g)
				if len(l) != c.count {
					t.Error(c.angle, start, sweep, len(l), "want", c.count)
				}
				checkRound(t, l, radius)
			}
		}
	}
}

// checkRound checks that joints lie on the circle, and that control points lie at most as far off as those of a quarter do.
func checkRound(t *testing.T, l []api.Curve, radius int64) {
	t.Helper()
	slight := radius / 100000
	for _, c := range l {
		for k, q := range points(c) {
			far := over(radius, [2]int64{q.X, q.X}, [2]int64{q.Y, q.Y}) - radius
			if k%3 == 0 && max(far, -far) > slight || far < -slight || far > radius/3 {
				t.Error(c, k, far)
			}
		}
	}
}

// Of long radii and ends beside each other the arc goes nearly all the way round, or hardly any way.
func TestP10_1NearlyAWholeTurn(t *testing.T) {
	for _, radius := range []int64{256, 1000, one, 1 << 24, unit, 1 << 31} {
		for dx := int64(-3); dx <= 4; dx++ {
			for dy := int64(-3); dy <= 4; dy++ {
				for _, g := range fourWays(p(dx, dy), radius, radius, 0) {
					if wordsShape(p(0, 0), g) != 2 {
						continue
					}
					checkWords(t, p(0, 0), g)
					if n := len(pieces(p(0, 0), g)); g.Large && radius >= 1000 && n != 4 || !g.Large && n != 1 {
						t.Error(radius, dx, dy, g, n)
					}
				}
			}
		}
	}
}

// Behind two quarters, where Large holds, the last direction is reached but for a Dot of 64 less than 1, or isn't: the answer is
// the same either way, since one piece is enough.
func TestP10_1DirectionsThatAreReachedButForRounding(t *testing.T) {
	var mix mixer
	count := map[int64]int{}
	for range 50000 {
		d := mix.direction()
		reach := unit - 12 - mix.size(3)
		from := p(over(unit, [2]int64{d.X, reach}), over(unit, [2]int64{d.Y, reach}))
		g := arc(p(-from.X, -from.Y), unit, unit, mix.number(32), true, mix.bool())
		w := wordsArc(from, g)
		left := vec.Dot(vec.Turn(w.first, 2), w.last) - unit
		count[left]++
		if count[left] <= 100 {
			checkWords(t, from, g)
			if n := len(pieces(from, g)); n != 3 {
				t.Error(from, g, left, n)
			}
		}
	}
	if min(count[-63], count[-64], count[-65]) < 100 {
		t.Error("too few", count)
	}
}

func TestP10_1CurvesHoldWithBigNumbers(t *testing.T) {
	var mix mixer
	long, short, tooFar := 0, 0, 0
	for range 20000 {
		from, g := mix.curved(1 + mix.next()%30)
		checkWords(t, from, g)
		if wordsArc(from, g).stretched {
			short++
		} else {
			long++
		}
	}
	for range 20000 {
		from, g := mix.any()
		checkWords(t, from, g)
		if _, e := Curves(from, g); e == api.ErrRange {
			tooFar++
		}
	}
	if min(long, short, tooFar) < 1000 {
		t.Error("too few", long, short, tooFar)
	}
}

// What is answered is the caller's own: nothing that is written there is told again.
func TestR4CurvesAreNewMemory(t *testing.T) {
	from, g := p(one, 0), arc(p(0, one), one, one, 0, true, true)
	first, _ := Curves(from, g)
	want := slices.Clone(first)
	other, _ := Curves(from, g)
	first = first[:cap(first)]
	for i := range first {
		first[i] = api.Curve{P: p(1, 2), Q: p(3, 4), R: p(5, 6), S: p(7, 8)}
	}
	again, _ := Curves(from, g)
	if !slices.Equal(other, want) || !slices.Equal(again, want) {
		t.Error(other, again, "want", want)
	}
}
