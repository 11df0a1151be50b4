package norm

import (
	"slices"
	"testing"

	"pointillist/api"
	"pointillist/path"
)

// byWords goes through commands by the chapter's words, from each one to the one ahead of it: the point and the beginning
// are looked for in the segments that are there, and nothing is kept beside them.
func byWords(l []api.Command) ([]api.Segment, int) {
	var g []api.Segment
	for i, c := range l {
		var origin api.Point
		if c.Letter >= 'a' {
			origin = pointOf(g)
		}
		to := func(k int) api.Point { return p(origin.X+c.Args[k], origin.Y+c.Args[k+1]) }
		now := g
		isMove := c.Letter == 'M' || c.Letter == 'm'
		if !isMove && g[len(g)-1].Kind == api.Close {
			now = append(slices.Clone(g), api.Segment{Kind: api.Move, To: pointOf(g)})
		}
		var s api.Segment
		switch c.Letter {
		case 'M', 'm':
			s = api.Segment{Kind: 1, To: to(0)}
		case 'L', 'l':
			s = api.Segment{Kind: 2, To: to(0)}
		case 'H', 'h':
			s = api.Segment{Kind: 2, To: p(origin.X+c.Args[0], pointOf(g).Y)}
		case 'V', 'v':
			s = api.Segment{Kind: 2, To: p(pointOf(g).X, origin.Y+c.Args[0])}
		case 'C', 'c':
			s = api.Segment{Kind: 3, C1: to(0), C2: to(2), To: to(4)}
		case 'S', 's':
			s = api.Segment{Kind: 3, C1: mirrorOf(g, l[:i], "CcSs"), C2: to(0), To: to(2)}
		case 'Q', 'q':
			s = api.Segment{Kind: 4, C1: to(0), To: to(2)}
		case 'T', 't':
			s = api.Segment{Kind: 4, C1: mirrorOf(g, l[:i], "QqTt"), To: to(0)}
		case 'A', 'a':
			s = api.Segment{Kind: 5, Rx: c.Args[0], Ry: c.Args[1], Turn: c.Args[2], Large: c.Args[3] > 0, Sweep: c.Args[4] > 0, To: to(5)}
		case 'Z', 'z':
			s = api.Segment{Kind: 6, To: beginningOf(now)}
		}
		if tooFar(s.To) || tooFar(s.C1) || tooFar(s.C2) {
			return nil, i
		}
		g = append(now, s)
	}
	return g, -1
}

func tooFar(q api.Point) bool {
	return max(q.X, -q.X, q.Y, -q.Y) >= 1<<32
}

func pointOf(g []api.Segment) api.Point {
	if len(g) == 0 {
		return api.Point{}
	}
	return g[len(g)-1].To
}

func beginningOf(g []api.Segment) api.Point {
	i := len(g) - 1
	for g[i].Kind != api.Move {
		i--
	}
	return g[i].To
}

func mirrorOf(g []api.Segment, ahead []api.Command, letters string) api.Point {
	q := pointOf(g)
	last := ahead[len(ahead)-1].Letter
	if !slices.Contains([]byte(letters), last) {
		return q
	}
	c := g[len(g)-1].C2
	if letters == "QqTt" {
		c = g[len(g)-1].C1
	}
	return p(2*q.X-c.X, 2*q.Y-c.Y)
}

func checkByWords(t *testing.T, l []api.Command) api.Errno {
	t.Helper()
	g, at := byWords(l)
	want := whole(g...)
	if at >= 0 {
		want = wrong(at, api.ErrRange)
	}
	check(t, l, want)
	if at < 0 && !Right(g...) { // P7.4
		t.Fatal("not right", l, g)
	}
	return want.e
}

// Every list of four letters behind an M.
func TestP7_1EachShortList(t *testing.T) {
	for _, first := range list(raw('M', 1000, 2000), raw('m', -3, 5)) {
		for _, a := range []byte(letters) {
			for _, b := range []byte(letters) {
				for _, c := range []byte(letters) {
					for _, d := range []byte(letters) {
						checkByWords(t, list(first, some(a), some(b), some(c), some(d)))
					}
				}
			}
		}
	}
}

// choices come of a rule, the same ones each time.
type choices uint64

func (x *choices) below(n int) int {
	*x = *x*6364136223846793005 + 1442695040888963407
	return int(*x>>33) % n
}

func (x *choices) number() int64 {
	n := int64(x.below(1<<31))*2 + int64(x.below(2))
	switch x.below(4) {
	case 0:
		n = most - n%5
	case 1:
		n %= 1 << 20
	case 2:
		n %= 10
	}
	if x.below(2) == 0 {
		return -n
	}
	return n
}

func (x *choices) command(letter byte) api.Command {
	c := raw(letter)
	for range path.Count(letter) {
		c.Args = append(c.Args, x.number())
	}
	if letter == 'A' || letter == 'a' {
		c.Args[0], c.Args[1] = max(c.Args[0], -c.Args[0]), max(c.Args[1], -c.Args[1])
		c.Args[3], c.Args[4] = int64(x.below(2)), int64(x.below(2))
	}
	return c
}

// mixedList is of commands that are right, all of which together don't go too far, as far as that is to be had.
func mixedList(x *choices) []api.Command {
	l := list(x.command("Mm"[x.below(2)]))
	for range x.below(12) {
		c := x.command(letters[x.below(len(letters))])
		if _, at := byWords(append(l, c)); at < 0 || x.below(20) == 0 {
			l = append(l, c)
			if at >= 0 {
				break
			}
		}
	}
	for range x.below(3) {
		l = append(l, x.command(letters[x.below(len(letters))]))
	}
	return l
}

func TestP7_1MixedLists(t *testing.T) {
	met := map[api.Errno]int{}
	for i := range 20000 {
		x := choices(i) * 0x9e3779b97f4a7c15
		met[checkByWords(t, mixedList(&x))]++
	}
	if met[api.OK] < 5000 || met[api.ErrRange] < 2000 {
		t.Error(met)
	}
}

// other is the command in the other size, from the same point: coordinates are less the point, or the point more.
func other(c api.Command, point api.Point) api.Command {
	sign := int64(-1)
	if c.Letter >= 'a' {
		sign = 1
	}
	o := raw(c.Letter^32, slices.Clone(c.Args)...)
	for i := range o.Args {
		switch {
		case (c.Letter == 'A' || c.Letter == 'a') && i < 5:
		case c.Letter == 'V' || c.Letter == 'v':
			o.Args[i] += sign * point.Y
		case (c.Letter == 'A' || c.Letter == 'a') == (i%2 == 0):
			o.Args[i] += sign * point.Y
		default:
			o.Args[i] += sign * point.X
		}
	}
	return o
}

// P7.4: each command is written in the other size, as far as its numbers are right there.
func TestP7_4CapitalLettersAndSmallOnesSayTheSame(t *testing.T) {
	turned := map[byte]int{}
	for i := range 4000 {
		x := choices(i) * 0x9e3779b97f4a7c15
		l := mixedList(&x)
		want, _, e := Normal(l...)
		if e != api.OK {
			continue
		}
		written := slices.Clone(l)
		for i, c := range l {
			ahead, _, _ := Normal(l[:i]...)
			if o := other(c, pointOf(ahead)); path.Right(o) {
				written[i] = o
				turned[c.Letter]++
			}
		}
		check(t, written, whole(want...))
	}
	for _, c := range []byte(letters) {
		if turned[c] < 50 {
			t.Errorf("%c: %d", c, turned[c])
		}
	}
}

// P7.4: what Normal tells is right, at every edge of the letters.
func TestP7_4SegmentsAreRight(t *testing.T) {
	for _, a := range []byte(letters) {
		for _, b := range []byte(letters) {
			l := list(raw('M', most, least), some(a), raw(b, make([]int64, path.Count(b))...))
			g, _, e := Normal(l...)
			if !Right(g...) || e == api.OK && len(g) < 3 {
				t.Error(l, g, e)
			}
		}
	}
}
