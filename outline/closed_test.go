package outline

import (
	"slices"
	"testing"

	"pointillist/api"
	"pointillist/arc"
	"pointillist/norm"
)

// mixer tells numbers by a rule, the same ones each time.
type mixer uint64

func (m *mixer) next(below int) int {
	*m = *m*6364136223846793005 + 1442695040888963407
	return int(uint64(*m) >> 33 % uint64(below))
}

// number is one from -size to size.
func (m *mixer) number(size int) int64 { return int64(m.next(2*size+1) - size) }

func (m *mixer) point(size int) api.Point { return p(m.number(size), m.number(size)) }

func (m *mixer) matrix() api.Matrix {
	l := []api.Matrix{same, turn, mirror, point, skew, {}, {A: 9, D: 5, E: 3}, {A: -3 * one, C: one, D: 2 * one, F: -77}}
	return l[m.next(len(l))]
}

// drawn is one that may stand behind a segment to whose To it goes, if it goes nowhere.
func (m *mixer) drawn(from api.Point, size int) api.Segment {
	to := m.point(size)
	if m.next(5) == 0 {
		to = from
	}
	switch m.next(4) {
	case 0:
		return api.Segment{Kind: api.Line, To: to}
	case 1:
		return cubicTo(m.point(size), m.point(size), to)
	case 2:
		return quadTo(m.point(size), to)
	}
	return arcTo(int64(m.next(size)), int64(m.next(size)), m.number(400*one), m.next(2) == 0, m.next(2) == 0, to)
}

// segments are right: a Move, and what may follow what stands ahead.
func (m *mixer) segments(size int) []api.Segment {
	begun := m.point(size)
	l := list(api.Segment{Kind: api.Move, To: begun})
	for n := m.next(12); n > 0; n-- {
		ahead := l[len(l)-1]
		switch k := m.next(8); {
		case ahead.Kind == api.Close || k == 0:
			begun = m.point(size)
			l = append(l, api.Segment{Kind: api.Move, To: begun})
		case k == 1:
			l = append(l, api.Segment{Kind: api.Close, To: begun})
		default:
			l = append(l, m.drawn(ahead.To, size))
		}
	}
	return l
}

// checkClosed counts how much more often each point is an end than a beginning.
func checkClosed(t *testing.T, m api.Matrix, l []api.Segment) {
	t.Helper()
	got, e := Edges(m, l...)
	if e != api.OK {
		t.Error(m, l, e)
	}
	count := map[api.Point]int{}
	for _, x := range got {
		if x.P == x.Q {
			t.Error(m, l, "goes nowhere", x)
		}
		count[x.P]--
		count[x.Q]++
	}
	for q, n := range count {
		if n != 0 {
			t.Error(m, l, q, n)
		}
	}
}

func TestP13_3EachPointIsAsOftenAnEnd(t *testing.T) {
	for _, m := range []api.Matrix{same, turn, mirror, point, skew, {}} {
		checkClosed(t, m, mixed())
		for n := range mixed() {
			checkClosed(t, m, mixed()[:n])
		}
	}
	for _, text := range []string{
		"", "M1 1", "M0 0L4 0L4 4", "M0 0h9v9h-9z", "M0 0C0 4 4 4 4 0S9 9 1 5z", "M0 0Q4 4 8 0T16 0zL3 3", "M0 0L4 4zC1 1 2 2 3 0zQ1 1 2 2zA1 1 0 0 0 5 5",
		"M1 0A1 1 0 0 1 0 1", "M1 0A1 1 0 1 0 0 1M5 5A3 2 30 1 1 9 9A0 0 0 0 0 1 1A1 1 0 1 1 1 1z", "M0 0M1 1M2 2L3 3M4 4L5 6zM7 7z",
	} {
		l, _, e := norm.Parse(text)
		if e != api.OK {
			t.Error(text, e)
		}
		for _, m := range []api.Matrix{same, turn, mirror, point, skew} {
			checkClosed(t, m, l)
		}
	}
}

// Paths of all kinds of segments, small and great: each against the words, too.
func TestP13_1P13_3MixedPaths(t *testing.T) {
	var m mixer
	kinds := map[int]int{}
	shapes := map[int]int{}
	near := 0
	for i := range 1500 {
		size := []int{3, 700, 40 * one, 3000 * one}[i%4]
		l, by := m.segments(size), m.matrix()
		if want, ok := wordsOutline(by, l); ok {
			near++
			check(t, by, l, want)
			checkClosed(t, by, l)
		} else {
			checkWrong(t, by, l, api.ErrRange, want)
		}
		for k, g := range l {
			kinds[g.Kind]++
			if g.Kind == api.Arc {
				shapes[arc.Shape(l[k-1].To, g)]++
			}
		}
	}
	if near < 1400 || len(kinds) != 6 || slices.Min([]int{shapes[0], shapes[1], shapes[2]}) < 50 {
		t.Error("too few", near, kinds, shapes)
	}
}

// Paths of which some go too far: the edges ahead of that segment are the words'.
func TestP13_1MixedPathsThatGoTooFar(t *testing.T) {
	var m mixer
	far, near := 0, 0
	for range 300 {
		l := m.segments(40000 * one)
		by := api.Matrix{A: one, B: m.number(20000), C: m.number(20000), D: one, E: m.number(30000 * one), F: m.number(30000 * one)}
		want, ok := wordsOutline(by, l)
		if ok {
			near++
			check(t, by, l, want)
			continue
		}
		if len(want) > 0 {
			far++
		}
		checkWrong(t, by, l, api.ErrRange, want)
	}
	if far < 30 || near < 30 {
		t.Error("too few", far, near)
	}
}
