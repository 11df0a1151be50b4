package arc

import (
	"slices"
	"testing"

	"pointillist/api"
	"pointillist/root"
	"pointillist/vec"
)

func checkPieces(t *testing.T, from api.Point, g api.Segment, want ...api.Point) {
	t.Helper()
	var l [][2]api.Point
	for i := range len(want) - 1 {
		l = append(l, [2]api.Point{want[i], want[i+1]})
	}
	if got := pieces(from, g); !slices.Equal(got, l) {
		t.Error(from, g, got, "want", l)
	}
	checkWords(t, from, g)
}

func TestP10_2PiecesOfACircle(t *testing.T) {
	right, down, left, up := p(unit, 0), p(0, unit), p(-unit, 0), p(0, -unit)
	half, back := p(2*one, 0), p(0, 0)
	checkPieces(t, half, arc(back, one, one, 0, false, true), right, down, left)
	checkPieces(t, half, arc(back, one, one, 0, false, false), right, up, left)
	checkPieces(t, half, arc(back, one, one, 0, true, true), right, down, left, left)
	checkPieces(t, half, arc(back, one, one, 0, true, false), right, up, left, left)
	// By the ellipse's own axes: these are turned, not the pieces.
	checkPieces(t, half, arc(back, one, one, 90*one, false, true), up, right, down)
	checkPieces(t, back, arc(half, one, one, 180*one, false, false), right, up, left)
	// The turns are exact, what is told of an end is rounded.
	begin, end := p(unit, 1), p(1, unit)
	other, opposite := p(-1, -unit), p(-unit, -1)
	checkPieces(t, p(one, 0), arc(p(0, one), one, one, 0, false, true), begin, end)
	checkPieces(t, p(one, 0), arc(p(0, one), one, one, 0, false, false), other, opposite)
	checkPieces(t, p(one, 0), arc(p(0, one), one, one, 0, true, false), begin, p(1, -unit), opposite, p(-1, unit), end)
	checkPieces(t, p(one, 0), arc(p(0, one), one, one, 0, true, true), other, p(unit, -1), end, p(-unit, 1), opposite)
}

func TestP10_2PiecesOfAnEllipseThatIsTurned(t *testing.T) {
	from, to := p(4*one, one), p(one, 3*one)
	checkPieces(t, from, arc(to, 3*one, 2*one, 30*one, false, false),
		p(-249921440, -1044251300), p(-1044251300, 249921440), p(-821897802, 690945372))
	checkPieces(t, from, arc(to, 3*one, 2*one, 30*one, false, true),
		p(821897802, -690945372), p(690945372, 821897802), p(249921440, 1044251300))
	checkPieces(t, from, arc(to, 3*one, 2*one, 30*one, true, false),
		p(821897802, -690945372), p(-690945372, -821897802), p(-821897802, 690945372), p(249921440, 1044251300))
	checkPieces(t, from, arc(to, 3*one, 2*one, 30*one, true, true),
		p(-249921440, -1044251300), p(1044251300, -249921440), p(249921440, 1044251300), p(-821897802, 690945372))
}

// stopped are the pieces that are told to one who stops at that one, counted from 1 on.
func stopped(from api.Point, g api.Segment, at int) [][2]api.Point {
	var l [][2]api.Point
	for w, z := range Pieces(from, g) {
		if l = append(l, [2]api.Point{w, z}); len(l) == at {
			break
		}
	}
	return l
}

func TestP10_2PiecesStop(t *testing.T) {
	for count, g := range []api.Segment{
		1: arc(p(0, one), one, one, 0, false, true),
		2: arc(p(-one, 0), one, one, 0, false, true),
		3: arc(p(-one, 0), one, one, 0, true, true),
		4: arc(p(0, one), one, one, 0, true, false),
	} {
		if count == 0 {
			continue
		}
		all := pieces(p(one, 0), g)
		if len(all) != count {
			t.Fatal(count, all)
		}
		for at := 1; at <= count; at++ { // the first, the second, and the last one among them
			if l := stopped(p(one, 0), g, at); !slices.Equal(l, all[:at]) {
				t.Error(count, at, l)
			}
		}
	}
}

// An iterator that is stopped tells nothing more: it doesn't ask again.
func TestP10_2PiecesAskNoMoreBehindTheStop(t *testing.T) {
	for _, g := range fourWays(p(0, one), one, one, 0) {
		count := len(pieces(p(one, 0), g))
		for at := 1; at <= count+1; at++ {
			asked := 0
			Pieces(p(one, 0), g)(func(w, z api.Point) bool {
				asked++
				return asked < at
			})
			if asked != min(at, count) {
				t.Error(g, at, asked)
			}
		}
	}
}

func TestR6PiecesAreGoneThroughTwice(t *testing.T) {
	for _, g := range slices.Concat(fourWays(p(0, one), one, one, 0), fourWays(p(-one, 0), one, one/2, 30*one)) {
		from := p(one, 0)
		want := pieces(from, g)
		again := Pieces(from, g)
		for range again {
			break
		}
		for range 2 {
			var l [][2]api.Point
			for w, z := range again {
				l = append(l, [2]api.Point{w, z})
				inside := 0
				for range again { // from within it begins anew, too
					inside++
				}
				if inside != len(want) {
					t.Error(g, inside)
				}
			}
			if !slices.Equal(l, want) {
				t.Error(g, l, "want", want)
			}
		}
	}
}

func TestP10_2NoPiecesOfOtherShapes(t *testing.T) {
	for _, g := range slices.Concat(
		fourWays(p(1, 1), one, one, 0),
		fourWays(p(one, 1), 255, one, 0), fourWays(p(one, 1), one, 255, 0), fourWays(p(one, 1), 0, 0, 0),
		fourWays(p(2, 1), one, one, 0), // half the way is 0
	) {
		told := Pieces(p(1, 1), g)
		if told == nil {
			t.Fatal("nil", g)
		}
		for w, z := range told {
			t.Error(g, w, z)
		}
	}
}

// What is told of a piece: the quarters ahead of the last one are turned by t, all directions are right, the last one is left to the end.
func TestP10_3PiecesGoOnFromEachOther(t *testing.T) {
	var mix mixer
	count := map[int]int{}
	for range 20000 {
		from, g := mix.curved(1 + mix.next()%30)
		l := pieces(from, g)
		count[len(l)]++
		way := -1
		if g.Sweep {
			way = 1
		}
		if len(l) < 1 || len(l) > 5 || g.Large && len(l) < 3 {
			t.Fatal(from, g, l)
		}
		for i, piece := range l {
			if !vec.Right(piece[0]) || !vec.Right(piece[1]) {
				t.Fatal(from, g, l)
			}
			if i > 0 && l[i-1][1] != piece[0] || i < len(l)-1 && vec.Turn(piece[0], way) != piece[1] {
				t.Fatal(from, g, l)
			}
		}
		if end := l[len(l)-1]; vec.Dot(end[0], end[1]) < 0 { // a quarter at most
			t.Fatal(from, g, l)
		}
	}
	for n := 1; n <= 4; n++ {
		if count[n] < 500 {
			t.Error("too few", count)
		}
	}
}

// Of a Dot by which the last direction is reached but for rounding the Cross makes no difference; of a lesser one it does.
func TestP10_2ArrivedByDotAndCross(t *testing.T) {
	for _, c := range []struct {
		dot, sign int64
		back      bool // is it enough though the last direction lies behind?
		on        bool // is it enough where it lies ahead?
	}{
		{unit + 1, 1, true, true}, {unit, 1, true, true}, {unit - 1, 1, true, true},
		{unit - 63, 1, true, true}, {unit - 64, 1, true, true}, {unit - 65, 1, false, true}, {unit - 66, 1, false, true},
		{unit / 2, 1, false, true}, {1, 1, false, true}, {0, 1, false, true}, {-1, 1, false, false},
		{-unit / 2, 1, false, false}, {64 - unit, 1, false, false}, {-unit, 1, false, false},
	} {
		side := int64(root.Floor(uint64(max(0, unit*unit-c.dot*c.dot))))
		for _, w := range []api.Point{p(unit, 0), p(0, unit), p(-unit, 0), p(0, -unit)} {
			for _, way := range []int{1, -1} {
				on := p(c.dot, int64(way)*side)
				back := p(c.dot, -int64(way)*side)
				quarters := slices.Index([]api.Point{p(unit, 0), p(0, unit), p(-unit, 0), p(0, -unit)}, w)
				on, back = vec.Turn(on, quarters), vec.Turn(back, quarters)
				if vec.Dot(w, on) != c.dot || vec.Dot(w, back) != c.dot || !vec.Right(on) {
					t.Fatal("no such directions", w, on, back, c.dot)
				}
				if got := arrived(w, on, way); got != c.on {
					t.Error(w, on, way, c.dot, got, "want", c.on)
				}
				want := c.back || side == 0 && c.dot >= 0 // of a Cross of 0 either way
				if got := arrived(w, back, way); got != want {
					t.Error(w, back, way, c.dot, got, "want", want)
				}
			}
		}
	}
}

// Of directions that are as short as may be even the Dot of one and itself is below 1 by more than 64: their Cross is 0, which is enough.
func TestP10_2ArrivedByACrossOf0(t *testing.T) {
	for _, w := range []api.Point{p(unit-64, 0), p(0, unit-64), p(64-unit, 0), p(0, 64-unit)} {
		if n := vec.Dot(w, w); n >= unit-64 || vec.Cross(w, w) != 0 || !vec.Right(w) {
			t.Fatal("no such direction", w, n)
		}
		for _, way := range []int{1, -1} {
			if !arrived(w, w, way) || arrived(w, vec.Turn(w, 2), way) {
				t.Error(w, way)
			}
		}
	}
}

// Of any two directions, also such as no arc has: where two quarters go beyond the last one, four are made and not one more.
func TestP10_3NeverMoreThanFive(t *testing.T) {
	var mix mixer
	count := map[int]int{}
	check := func(e ellipse) {
		t.Helper()
		var l [][2]api.Point
		for w, z := range e.pieces() {
			l = append(l, [2]api.Point{w, z})
		}
		if want := wordsPieces(e.first, e.last, e.ahead == 2, int64(e.way)); !slices.Equal(l, want) {
			t.Fatal(e, l, "want", want)
		}
		if len(l) > 5 {
			t.Fatal(e, l)
		}
		count[len(l)]++
	}
	for range 20000 {
		e := ellipse{first: mix.direction(), last: mix.direction(), way: 1}
		if mix.bool() {
			e.way = -1
		}
		if mix.bool() {
			e.ahead = 2
		}
		check(e)
		for quarters := range 4 { // Dots and Crosses of 0, and beside it
			e.last = vec.Turn(e.first, quarters)
			check(e)
			e.last.X++
			check(e)
			e.last.Y--
			check(e)
		}
	}
	for n := 1; n <= 5; n++ {
		if count[n] < 1000 {
			t.Error("too few", count)
		}
	}
}
