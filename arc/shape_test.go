package arc

import (
	"testing"

	"pointillist/api"
)

const furthest = bound - 1

func checkShape(t *testing.T, from, to api.Point, rx, ry, turn int64, want int) {
	t.Helper()
	for _, g := range fourWays(to, rx, ry, turn) { // which way it goes makes no difference
		if n := Shape(from, g); n != want {
			t.Error(from, g, n, "want", want)
		}
		if want == Curved {
			continue
		}
		if l, e := Curves(from, g); len(l) != 0 || e != api.OK {
			t.Error(from, g, l, e)
		}
		if l := pieces(from, g); len(l) != 0 {
			t.Error(from, g, l)
		}
	}
}

func TestP10_1ShapesAreNumbered(t *testing.T) {
	if Nothing != 0 || Straight != 1 || Curved != 2 {
		t.Error(Nothing, Straight, Curved)
	}
}

// Nothing comes ahead of all else: radii that are too short make no difference.
func TestP10_1ShapeNothing(t *testing.T) {
	for _, q := range []api.Point{p(0, 0), p(one, -one), p(-7, 3), p(furthest, furthest), p(-furthest, furthest)} {
		for _, rx := range []int64{0, 1, 255, 256, one, furthest} {
			for _, ry := range []int64{0, 1, 255, 256, one, furthest} {
				checkShape(t, q, q, rx, ry, 30*one, Nothing)
			}
		}
	}
	checkShape(t, p(5, 6), p(5, 7), 0, 0, 0, Straight) // one number alone that is alike isn't enough
	checkShape(t, p(5, 6), p(4, 6), 255, 0, 0, Straight)
	checkShape(t, p(500, 6), p(4, 6), one, one, 0, Curved)
	checkShape(t, p(5, 600), p(5, 6), one, one, 0, Curved)
}

func TestP10_1ShapeByRadii(t *testing.T) {
	for _, c := range []struct {
		rx, ry int64
		want   int
	}{
		{0, 0, Straight}, {0, 256, Straight}, {256, 0, Straight}, {0, furthest, Straight}, {furthest, 0, Straight},
		{1, 1, Straight}, {1, 256, Straight}, {256, 1, Straight},
		{255, 255, Straight}, {255, 256, Straight}, {256, 255, Straight}, {255, furthest, Straight}, {furthest, 255, Straight},
		{256, 256, Curved}, {257, 256, Curved}, {256, 257, Curved}, {256, furthest, Curved}, {furthest, 256, Curved},
		{one, one, Curved}, {furthest, furthest, Curved},
	} {
		for _, turn := range []int64{0, 30 * one, -90 * one, furthest, -furthest} {
			checkShape(t, p(0, 0), p(one, 2*one), c.rx, c.ry, turn, c.want)
			checkShape(t, p(-furthest, furthest), p(furthest, -furthest), c.rx, c.ry, turn, c.want)
		}
	}
}

// The half of the way is brought to the nearest number, and so is what it is of a radius: an l of 0 comes of either one.
func TestP10_1ShapeOfPointsBesideEachOther(t *testing.T) {
	const edge = 1 << 31 // of it 1 is a half, with 30 places
	for _, c := range []struct {
		dx, radius int64
		want       int
	}{
		{1, 256, Curved}, {1, edge - 1, Curved}, {1, edge, Curved}, {1, edge + 1, Straight}, {1, furthest, Straight},
		{-1, 256, Straight}, {-1, one, Straight}, {-1, edge, Straight}, {-1, furthest, Straight}, // the half of -1 is 0
		{2, 256, Curved}, {2, edge, Curved}, {2, edge + 1, Straight}, {2, furthest, Straight},
		{-2, 256, Curved}, {-2, edge - 1, Curved}, {-2, edge, Straight}, {-2, furthest, Straight},
		{3, edge + 1, Curved}, {3, furthest, Curved},
		{-3, edge - 1, Curved}, {-3, edge, Straight}, {-3, furthest, Straight},
		{4, furthest, Curved}, {-4, furthest, Curved},
	} {
		for _, other := range []int64{256, one, edge - 1, edge, edge + 1, furthest} {
			for _, to := range []api.Point{p(0, 0), p(-one, one), p(furthest-4, 4-furthest)} {
				checkShape(t, p(to.X+c.dx, to.Y), to, c.radius, other, 0, c.want)
				checkShape(t, p(to.X, to.Y+c.dx), to, other, c.radius, 0, c.want)
				checkShape(t, p(to.X, to.Y+c.dx), to, c.radius, other, 90*one, c.want)
				checkShape(t, p(to.X-c.dx, to.Y), to, c.radius, other, 180*one, c.want)
				checkShape(t, p(to.X, to.Y-c.dx), to, c.radius, other, -90*one, c.want)
				checkShape(t, p(to.X-c.dx, to.Y), to, other, c.radius, 90*one, c.want)
			}
		}
	}
	for _, q := range []api.Point{p(1, 0), p(1, -1), p(0, 1), p(1, 1), p(-1, 1)} {
		checkShape(t, q, p(0, 0), 256, 256, 0, Curved)
	}
	checkShape(t, p(-1, -1), p(0, 0), 256, 256, 0, Straight)
	checkShape(t, p(1, 1), p(0, 0), 256, 256, 45*one, Curved)
	checkShape(t, p(-1, 1), p(0, 0), 256, 256, 45*one, Curved) // 1, by the sine
	checkShape(t, p(1, -1), p(0, 0), 256, 256, 45*one, Curved)
	checkShape(t, p(-1, 0), p(0, 0), 256, 256, 45*one, Straight)
}

func TestP10_1ShapeHoldsWithBigNumbers(t *testing.T) {
	var mix mixer
	count := [3]int{}
	for range 50000 {
		bits := 1 + mix.next()%32
		from := mix.point(32)
		to := p(from.X+mix.number(bits), from.Y+mix.number(bits))
		rx, ry := mix.size(32), mix.size(32)
		if max(to.X, to.Y, -to.X, -to.Y) >= bound {
			continue
		}
		turn := mix.number(32)
		want := wordsShape(from, arc(to, rx, ry, turn, false, false))
		count[want]++
		if n := Shape(from, arc(to, rx, ry, turn, mix.bool(), mix.bool())); n != want {
			t.Fatal(from, to, rx, ry, turn, n, "want", want)
		}
	}
	if min(count[0], count[1], count[2]) < 500 {
		t.Error("too few", count)
	}
}
