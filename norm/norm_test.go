package norm

import (
	"math"
	"slices"
	"testing"

	"pointillist/api"
	"pointillist/path"
)

// letters are the twenty.
const letters = "MmLlHhVvCcSsQqTtAaZz"

const (
	most  = api.Bound - 1
	least = -most
)

func list(l ...api.Command) []api.Command { return l }

// raw is a command of numbers as they stand in the list.
func raw(letter byte, args ...int64) api.Command {
	return api.Command{Letter: letter, Args: args}
}

// some is a command of the letter with numbers of no meaning, each another one.
func some(letter byte) api.Command {
	c := raw(letter)
	for i := range path.Count(letter) {
		c.Args = append(c.Args, int64(10+7*i*i))
	}
	if letter == 'A' || letter == 'a' {
		c.Args[3], c.Args[4] = 1, 0
	}
	return c
}

func p(x, y int64) api.Point { return api.Point{X: x, Y: y} }

func move(x, y int64) api.Segment { return api.Segment{Kind: api.Move, To: p(x, y)} }

func line(x, y int64) api.Segment { return api.Segment{Kind: api.Line, To: p(x, y)} }

func shut(x, y int64) api.Segment { return api.Segment{Kind: api.Close, To: p(x, y)} }

func cubic(c1, c2, to api.Point) api.Segment {
	return api.Segment{Kind: api.Cubic, C1: c1, C2: c2, To: to}
}

func quad(c1, to api.Point) api.Segment {
	return api.Segment{Kind: api.Quad, C1: c1, To: to}
}

func arc(rx, ry, turn int64, large, sweep bool, to api.Point) api.Segment {
	return api.Segment{Kind: api.Arc, Rx: rx, Ry: ry, Turn: turn, Large: large, Sweep: sweep, To: to}
}

// told is what Normal or Parse must tell.
type told struct {
	l  []api.Segment
	at int
	e  api.Errno
}

func whole(l ...api.Segment) told { return told{l, -1, api.OK} }

func wrong(at int, e api.Errno) told { return told{nil, at, e} }

func same(l []api.Segment, at int, e api.Errno, want told) bool {
	return slices.Equal(l, want.l) && at == want.at && e == want.e
}

func check(t *testing.T, l []api.Command, want told) {
	t.Helper()
	if g, at, e := Normal(l...); !same(g, at, e, want) {
		t.Fatalf("%v: %v, %d, %d, want %v", l, g, at, e, want)
	}
}

func checkParse(t *testing.T, s string, want told) {
	t.Helper()
	if g, at, e := Parse(s); !same(g, at, e, want) {
		t.Fatalf("%.80q: %.200v, %d, %d, want %.200v", s, g, at, e, want)
	}
}

func TestP7_1Example(t *testing.T) {
	check(t, list(raw('M', 1, 1), raw('h', 2), raw('z'), raw('l', 1, 0)),
		whole(move(1, 1), line(3, 1), shut(1, 1), move(1, 1), line(2, 1)))
}

func TestP7_1NoCommands(t *testing.T) {
	check(t, nil, whole())
	check(t, list(), whole())
}

func TestP7_1EachLetter(t *testing.T) {
	first := raw('M', 100, 200)
	for _, c := range []struct {
		c api.Command
		g api.Segment
	}{
		{raw('M', 3, -4), move(3, -4)},
		{raw('m', 3, -4), move(103, 196)},
		{raw('L', 3, -4), line(3, -4)},
		{raw('l', 3, -4), line(103, 196)},
		{raw('H', 3), line(3, 200)},
		{raw('h', 3), line(103, 200)},
		{raw('V', -4), line(100, -4)},
		{raw('v', -4), line(100, 196)},
		{raw('C', 1, -2, 3, -4, 5, -6), cubic(p(1, -2), p(3, -4), p(5, -6))},
		{raw('c', 1, -2, 3, -4, 5, -6), cubic(p(101, 198), p(103, 196), p(105, 194))},
		{raw('S', 3, -4, 5, -6), cubic(p(100, 200), p(3, -4), p(5, -6))},
		{raw('s', 3, -4, 5, -6), cubic(p(100, 200), p(103, 196), p(105, 194))},
		{raw('Q', 3, -4, 5, -6), quad(p(3, -4), p(5, -6))},
		{raw('q', 3, -4, 5, -6), quad(p(103, 196), p(105, 194))},
		{raw('T', 5, -6), quad(p(100, 200), p(5, -6))},
		{raw('t', 5, -6), quad(p(100, 200), p(105, 194))},
		{raw('A', 7, 8, -9, 1, 0, 5, -6), arc(7, 8, -9, true, false, p(5, -6))},
		{raw('a', 7, 8, -9, 0, 1, 5, -6), arc(7, 8, -9, false, true, p(105, 194))},
		{raw('Z'), shut(100, 200)},
		{raw('z'), shut(100, 200)},
	} {
		check(t, list(first, c.c), whole(move(100, 200), c.g))
	}
}

func TestP7_1FlagsRadiiAndTurns(t *testing.T) {
	for i := range int64(4) {
		large, sweep := i/2 == 1, i%2 == 1
		check(t, list(raw('M', 5, 6), raw('A', 0, most, least, i/2, i%2, 5, 6)), whole(move(5, 6), arc(0, most, least, large, sweep, p(5, 6))))
		check(t, list(raw('M', 5, 6), raw('a', most, 0, most, i/2, i%2, 5, 6)), whole(move(5, 6), arc(most, 0, most, large, sweep, p(10, 12))))
	}
}

func TestP7_1MovesOneByOne(t *testing.T) {
	check(t, list(raw('m', 3, 4)), whole(move(3, 4))) // the point is 0, 0 at first
	check(t, list(raw('m', 3, 4), raw('m', 10, 20), raw('M', 5, 5), raw('m', -1, -2)), whole(move(3, 4), move(13, 24), move(5, 5), move(4, 3)))
	check(t, list(raw('M', 3, 4), raw('l', 1, 1), raw('m', 1, 1), raw('z')), whole(move(3, 4), line(4, 5), move(5, 6), shut(5, 6)))
}

func TestP7_1ThePointMovesOn(t *testing.T) {
	first := list(raw('M', 100, 200))
	for _, c := range letters {
		l := append(slices.Clone(first), some(byte(c)), raw('l', 1, 2), raw('h', 4), raw('v', 8), raw('H', 7), raw('V', 9))
		g, at, e := Normal(l...)
		if at != -1 || e != api.OK {
			t.Fatalf("%c: %d, %d", c, at, e)
		}
		to := g[1].To
		want := []api.Segment{line(to.X+1, to.Y+2), line(to.X+5, to.Y+2), line(to.X+5, to.Y+10), line(7, to.Y+10), line(7, 9)}
		if !slices.Equal(g[len(g)-5:], want) {
			t.Errorf("%c: %v", c, g)
		}
	}
}

func TestP7_1SmallLettersGoFromThePoint(t *testing.T) {
	check(t, list(
		raw('M', 10, 20), raw('l', 1, 2), raw('h', 3), raw('v', 4), raw('c', 1, 2, 3, 4, 5, 6), raw('q', -1, -2, -3, -4),
		raw('a', 1, 2, 3, 0, 0, 7, 8), raw('m', 1, 1), raw('l', 1, 0), raw('z'), raw('m', 2, 2),
	), whole(
		move(10, 20), line(11, 22), line(14, 22), line(14, 26), cubic(p(15, 28), p(17, 30), p(19, 32)), quad(p(18, 30), p(16, 28)),
		arc(1, 2, 3, false, false, p(23, 36)), move(24, 37), line(25, 37), shut(24, 37), move(26, 39),
	))
}

func TestP7_1LettersBehindZ(t *testing.T) {
	for _, z := range []byte("Zz") {
		l := list(raw('M', 100, 200), raw('L', 7, 8), raw(z))
		head := []api.Segment{move(100, 200), line(7, 8), shut(100, 200)}
		for _, c := range letters {
			g, at, e := Normal(append(slices.Clone(l), some(byte(c)))...)
			alone, _, _ := Normal(raw('M', 100, 200), some(byte(c)))
			want := append(slices.Clone(head), alone...)
			if c == 'M' || c == 'm' { // it opens one itself
				want = append(slices.Clone(head), alone[1])
			}
			if !same(g, at, e, whole(want...)) {
				t.Errorf("%c: %v, %d, %d", c, g, at, e)
			}
		}
	}
}

func TestP7_1ZBehindZ(t *testing.T) {
	check(t, list(raw('M', 1, 2), raw('Z')), whole(move(1, 2), shut(1, 2)))
	check(t, list(raw('M', 1, 2), raw('z'), raw('Z'), raw('z')), whole(move(1, 2), shut(1, 2), move(1, 2), shut(1, 2), move(1, 2), shut(1, 2)))
	check(t, list(raw('M', 1, 2), raw('l', 5, 5), raw('z'), raw('l', 1, 1), raw('z'), raw('m', 3, 3), raw('z'), raw('h', 1)), whole(
		move(1, 2), line(6, 7), shut(1, 2), move(1, 2), line(2, 3), shut(1, 2), move(4, 5), shut(4, 5), move(4, 5), line(5, 5),
	))
}

func TestP7_1ControlPointsBehindEachLetter(t *testing.T) {
	for _, c := range letters {
		l := list(raw('M', 100, 200), raw('L', 30, 40), some(byte(c)))
		ahead, _, _ := Normal(l...)
		last := ahead[len(ahead)-1]
		c2, c1 := last.To, last.To
		switch c {
		case 'C', 'c', 'S', 's':
			c2 = p(2*last.To.X-last.C2.X, 2*last.To.Y-last.C2.Y)
		case 'Q', 'q', 'T', 't':
			c1 = p(2*last.To.X-last.C1.X, 2*last.To.Y-last.C1.Y)
		case 'Z', 'z':
			ahead = append(ahead, move(last.To.X, last.To.Y))
		}
		x, y := last.To.X, last.To.Y
		for _, smooth := range []struct {
			c api.Command
			g api.Segment
		}{
			{raw('S', 1, 2, 3, 4), cubic(c2, p(1, 2), p(3, 4))},
			{raw('s', 1, 2, 3, 4), cubic(c2, p(x+1, y+2), p(x+3, y+4))},
			{raw('T', 3, 4), quad(c1, p(3, 4))},
			{raw('t', 3, 4), quad(c1, p(x+3, y+4))},
		} {
			check(t, append(slices.Clone(l), smooth.c), whole(append(slices.Clone(ahead), smooth.g)...))
		}
	}
}

func TestP7_1MirrorsInARow(t *testing.T) {
	check(t, list(raw('M', 0, 0), raw('C', 9, 9, 1, 2, 3, 5), raw('S', 4, 4, 6, 7), raw('s', 1, 1, 2, 1), raw('L', 0, 0), raw('S', 1, 1, 2, 2)), whole(
		move(0, 0), cubic(p(9, 9), p(1, 2), p(3, 5)), cubic(p(5, 8), p(4, 4), p(6, 7)), cubic(p(8, 10), p(7, 8), p(8, 8)), line(0, 0),
		cubic(p(0, 0), p(1, 1), p(2, 2)),
	))
	check(t, list(raw('M', 0, 0), raw('q', 1, 2, 2, 0), raw('t', 2, 0), raw('T', 6, 0), raw('m', 0, 0), raw('t', 1, 1)), whole(
		move(0, 0), quad(p(1, 2), p(2, 0)), quad(p(3, -2), p(4, 0)), quad(p(5, 2), p(6, 0)), move(6, 0), quad(p(6, 0), p(7, 1)),
	))
	check(t, list(raw('M', 0, 0), raw('C', 9, 9, 1, 2, 3, 5), raw('z'), raw('S', 1, 1, 2, 2)), whole(
		move(0, 0), cubic(p(9, 9), p(1, 2), p(3, 5)), shut(0, 0), move(0, 0), cubic(p(0, 0), p(1, 1), p(2, 2)),
	))
}

// wrongCommands are each wrong by one thing.
func wrongCommands() []api.Command {
	l := list(
		raw(0), raw('B', 1, 2), raw('x'), raw('m'-1), raw(0xcd, 1, 2), raw('M'), raw('M', 1), raw('m', 1, 2, 3), raw('Z', 0), raw('z', 1, 2),
		raw('A', -1, 1, 0, 0, 0, 1, 1), raw('a', 1, -1, 0, 0, 0, 1, 1), raw('A', 1, 1, 0, 2, 0, 1, 1), raw('a', 1, 1, 0, 0, -1, 1, 1),
	)
	for _, c := range letters {
		for i := range path.Count(byte(c)) {
			for _, n := range []int64{api.Bound, -api.Bound, math.MaxInt64, math.MinInt64} {
				x := some(byte(c))
				x.Args[i] = n
				l = append(l, x)
			}
		}
	}
	return l
}

func TestP7_1WrongCommands(t *testing.T) {
	for _, c := range wrongCommands() {
		check(t, list(c), wrong(0, api.ErrArg))
		check(t, list(c, raw('M', 1, 1)), wrong(0, api.ErrArg))
		check(t, list(raw('M', 1, 1), c), wrong(1, api.ErrArg))
		check(t, list(raw('m', 1, 1), raw('z'), raw('z'), c, raw('z'), c, raw('H')), wrong(3, api.ErrArg))
		check(t, list(raw('M', most, 1), raw('h', 1), c), wrong(2, api.ErrArg)) // ahead of what goes too far
	}
}

func TestP7_1TheFirstLetter(t *testing.T) {
	for i := range 256 {
		letter := byte(i)
		if letter == 'M' || letter == 'm' {
			continue
		}
		for _, c := range list(some(letter), raw(letter), raw(letter, 1, 2), raw(letter, 1, 2, 3, 4)) {
			check(t, list(c), wrong(0, api.ErrArg))
			check(t, list(c, raw('M', 1, 1)), wrong(0, api.ErrArg))
			check(t, list(c, raw('H', 1, 1)), wrong(0, api.ErrArg))
			check(t, list(c, raw('m', most, 1), raw('h', 1)), wrong(0, api.ErrArg))
		}
	}
}

// far goes to both sides of the bound, from a point that is 2 or more, by the number at a place of a command of that letter.
func far(t *testing.T, point int64, letter byte, place int) {
	t.Helper()
	for _, side := range []int64{1, -1} {
		l := list(raw('m', side*point, side*point), raw('z'), raw(letter, make([]int64, path.Count(letter))...))
		n := &l[2].Args[place]
		*n = side * (api.Bound - point)
		check(t, l, wrong(2, api.ErrRange))
		check(t, append(l, some('Z'), raw('H', 0)), wrong(2, api.ErrRange))
		*n += side
		check(t, l, wrong(2, api.ErrRange))
		*n = side * most
		check(t, l, wrong(2, api.ErrRange))
		*n = side * (most - point)
		if g, at, e := Normal(l...); len(g) < 3 || at != -1 || e != api.OK || !Right(g...) {
			t.Fatal(l, g, at, e)
		}
	}
}

func TestP7_1CoordinatesAtTheBound(t *testing.T) {
	for _, letter := range []byte("mlhvcsqta") {
		for place := range path.Count(letter) {
			if letter == 'a' && place < 5 {
				continue // these aren't added
			}
			for _, point := range []int64{2, 1 << 16, 1 << 31, most - 1} {
				far(t, point, letter, place)
			}
		}
	}
	check(t, list(raw('M', most, least), raw('l', 1-api.Bound, 0), raw('H', least), raw('v', most)),
		whole(move(most, least), line(0, least), line(least, least), line(least, 0)))
	check(t, list(raw('M', most, 0), raw('h', 1)), wrong(1, api.ErrRange))
	check(t, list(raw('M', 0, least), raw('v', -1)), wrong(1, api.ErrRange))
	check(t, list(raw('M', most, most), raw('h', most)), wrong(1, api.ErrRange))
}

func TestP7_1MirrorsAtTheBound(t *testing.T) {
	for _, c := range []struct {
		point, control int64 // the mirror is twice the one less the other
		fits           bool
	}{
		{1 << 31, 1, true},
		{1 << 31, 0, false},
		{1 << 31, -1, false},
		{most, most, true},
		{most, most - 1, false},
		{most, 0, false},
		{most, least, false},
		{0, least, true},
		{0, most, true},
		{1, -most + 2, true},
		{1, -most + 1, false},
	} {
		for _, side := range []int64{1, -1} {
			x, y := side*c.point, side*c.control
			for _, l := range [][]api.Command{
				list(raw('M', 0, 0), raw('C', 0, 0, y, 0, x, 0), raw('S', 0, 0, 0, 0)),
				list(raw('M', 0, 0), raw('S', 0, y, 0, x), raw('s', 0, 0, 0, 0)),
				list(raw('M', 0, 0), raw('Q', y, 0, x, 0), raw('T', 0, 0)),
				list(raw('M', 0, 0), raw('q', 0, y, 0, x), raw('t', 0, 0)),
			} {
				g, at, e := Normal(l...)
				if c.fits && (len(g) != 3 || at != -1 || e != api.OK) || !c.fits && !same(g, at, e, wrong(2, api.ErrRange)) {
					t.Error(c, l, g, at, e)
				}
			}
		}
	}
	// T's mirrors go farther and farther
	check(t, list(raw('M', 0, 0), raw('Q', 1<<31, 0, 0, 0), raw('T', 1<<31, 0), raw('T', 0, 0), raw('L', 0, 0)), wrong(3, api.ErrRange))
}

func TestP7_1TheFirstThatGoesTooFar(t *testing.T) {
	check(t, list(raw('M', most, most), raw('l', -5, 0), raw('h', 5), raw('h', 1), raw('v', 1), raw('z')), wrong(3, api.ErrRange))
	check(t, list(raw('m', most, most), raw('m', 1, 0), raw('M', 0, 0)), wrong(1, api.ErrRange))
	check(t, list(raw('m', most, most), raw('z'), raw('Z'), raw('l', 0, 1)), wrong(3, api.ErrRange))
}

// withRoom are the commands as copies, each with spare room behind its numbers that has a number in it.
func withRoom(l []api.Command) []api.Command {
	var room []api.Command
	for _, c := range l {
		room = append(room, raw(c.Letter, append(slices.Clone(c.Args), 77)[:len(c.Args)]...))
	}
	return append(room, raw('H', 9))[:len(l)]
}

func sameCommand(a, b api.Command) bool { return a.Letter == b.Letter && slices.Equal(a.Args, b.Args) }

func TestP7_1WhatIsHandedInStays(t *testing.T) {
	l := list(raw('m', 1, 2), raw('c', 1, 2, 3, 4, 5, 6), raw('s', 1, 2, 3, 4), raw('a', 1, 2, 3, 0, 1, 1, 2), raw('z'), raw('t', 1, 2))
	room := withRoom(l)
	g, _, _ := Normal(room...)
	was := slices.Clone(g)
	if !slices.EqualFunc(room, l, sameCommand) || !sameCommand(room[:len(l)+1][len(l)], raw('H', 9)) {
		t.Error(room)
	}
	for _, c := range room {
		if c.Args[:len(c.Args)+1][len(c.Args)] != 77 {
			t.Error(c)
		}
	}
	room[0].Args[0] = 50
	room[1] = raw('l', 1, 1)
	if !slices.Equal(g, was) {
		t.Error(g)
	}
}

func TestP7_1AnswersAreNew(t *testing.T) {
	l := list(raw('m', 1, 2), raw('h', 3), raw('z'), raw('t', 1, 2))
	first, _, _ := Normal(l...)
	second, _, _ := Normal(l...)
	was := slices.Clone(second)
	clear(first[:cap(first)])
	third, _, _ := Normal(l...)
	if !slices.Equal(second, was) || !slices.Equal(third, was) {
		t.Error(second, third)
	}
}
