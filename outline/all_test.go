package outline

import (
	"iter"
	"math"
	"slices"
	"testing"

	"pointillist/api"
	"pointillist/flat"
)

// mixed has segments of all kinds, in four subpaths, and edges that are left out between.
func mixed() []api.Segment {
	return list(
		moveTo(0, 0), lineTo(9*one, 0), lineTo(9*one, 0), cubicTo(p(9*one, one), p(5*one, one), p(4*one, one)),
		moveTo(5, 5), moveTo(7, 7), quadTo(p(-one, 9*one), p(one, one)), arcTo(0, 3, 0, true, true, p(0, one)), closed(7, 7),
		moveTo(-3*one, 0), arcTo(2*one, one, 30*one, true, false, p(3*one, 3*one)), arcTo(one, one, 0, false, false, p(3*one, 3*one)),
		lineTo(-3*one, 0), closed(-3*one, 0), moveTo(1, 1), lineTo(one, 3),
	)
}

// told is what one is told who says no at that time, counted from 1 on.
func told(seq iter.Seq[api.Edge], at int) (l []api.Edge) {
	seq(func(e api.Edge) bool {
		l = append(l, e)
		return len(l) < at
	})
	return l
}

// checkStops breaks off at each edge, the first one and the last one among them, and goes through anew each time.
func checkStops(t *testing.T, seq iter.Seq[api.Edge], want []api.Edge) {
	t.Helper()
	for at := 1; at <= len(want)+1; at++ {
		n := min(at, len(want))
		if l := told(seq, at); !slices.Equal(l, want[:n]) {
			t.Error("asked at", at, len(l), "want", n)
		}
		left := 0
		for e := range seq {
			if e != want[left] {
				t.Error("at", left, e, want[left])
			}
			if left++; left == at {
				break
			}
		}
		if left != n {
			t.Error("left at", at, left, "want", n)
		}
	}
	for range 2 {
		if l := slices.Collect(seq); !slices.Equal(l, want) {
			t.Error("anew", len(l), "want", len(want))
		}
	}
}

func TestP13_1AllStops(t *testing.T) {
	checkStops(t, All(same), nil)
	checkStops(t, All(same, moveTo(1, 1)), nil)
	checkStops(t, All(same, moveTo(0, 0), lineTo(1, 0)), edges(0, 0, 1, 0, 0, 0))
	checkStops(t, All(same, moveTo(0, 0), cubicTo(p(0, 0), p(0, 0), p(4096, 0))), edges(0, 0, 512, 0, 1728, 0, 4096, 0, 0, 0))
	for _, m := range []api.Matrix{same, turn, mirror, point, skew} {
		want, near := wordsOutline(m, mixed())
		if !near || (len(want) < 50) != (m == point) {
			t.Error(m, near, len(want))
		}
		check(t, m, mixed(), want)
		checkStops(t, All(m, mixed()...), want)
	}
}

// Ahead of what goes too far it stops as well, and it tells none of that segment's, though its first cubic doesn't.
func TestP13_1AllStopsAheadOfAnError(t *testing.T) {
	by := api.Matrix{A: one, D: one, E: 8 * one}
	ahead := list(moveTo(0, 0), cubicTo(p(0, 0), p(0, 0), p(4096, 0)), lineTo(65510*one, 0))
	l := append(ahead, half[2:]...)
	e := 8 * int64(one)
	want := edges(e, 0, e+512, 0, e+1728, 0, e+4096, 0, 65510*one+e, 0)
	checkFar(t, by, l, want)
	checkStops(t, All(by, l...), want)
	for _, wrong := range wrongSegments() {
		checkStops(t, All(same, wrong...), nil)
	}
	checkStops(t, All(wrongMatrices()[1], ahead...), nil)
}

// From within, and two at once, each goes from its own beginning on.
func TestR6AllIsGoneThroughAnew(t *testing.T) {
	want, _ := wordsOutline(same, mixed())
	seq := All(same, mixed()...)
	n := 0
	for e := range seq {
		if l := told(seq, n+1); !slices.Equal(l, want[:n+1]) || e != want[n] {
			t.Error(n, e, len(l))
		}
		n++
	}
	one, stopOne := iter.Pull(seq)
	defer stopOne()
	other, stopOther := iter.Pull(seq)
	defer stopOther()
	one()
	for i := range want[1:] {
		x, _ := one()
		y, _ := other()
		if x != want[i+1] || y != want[i] {
			t.Error(i, x, y)
		}
	}
}

// What is written into the segments behind the call makes no difference, nor what is written between two edges.
func TestR4SegmentsArentKept(t *testing.T) {
	want, _ := wordsOutline(same, mixed())
	l := mixed()
	seq := All(same, l...)
	n := 0
	for e := range seq {
		clear(l)
		if e != want[n] {
			t.Fatal(n, e, want[n])
		}
		n++
	}
	if got := slices.Collect(seq); n != len(want) || !slices.Equal(got, want) {
		t.Error(n, len(got), "want", len(want))
	}
}

func TestR4SegmentsArentChanged(t *testing.T) {
	room := append(mixed(), lineTo(11, 11), moveTo(22, 22), closed(33, 33))
	want := slices.Clone(room)
	l := room[:len(room)-3]
	Edges(skew, l...)
	for range All(skew, l...) {
	}
	Edges(api.Matrix{A: most, D: most}, l...)
	if !slices.Equal(room, want) {
		t.Error(room)
	}
}

func TestR4EdgesAreNewMemory(t *testing.T) {
	for _, l := range [][]api.Segment{mixed(), mixed()[:2], half} {
		want, _ := wordsOutline(same, l)
		first, _ := Edges(same, l...)
		second, _ := Edges(same, l...)
		first = first[:cap(first)]
		for i := range first {
			first[i] = api.Edge{P: p(1, 2), Q: p(3, 4)}
		}
		third, _ := Edges(same, l...)
		if !slices.Equal(second, want) || !slices.Equal(third, want) {
			t.Error(len(second), len(third), "want", len(want))
		}
	}
}

// Nothing is left behind by a call that goes wrong.
func TestR2AnErrorLeavesNothing(t *testing.T) {
	want, _ := wordsOutline(same, mixed())
	seq := All(same, mixed()...)
	Edges(api.Matrix{A: most, D: most}, mixed()...)
	told(All(api.Matrix{A: most, D: most}, mixed()...), 3)
	check(t, same, mixed(), want)
	if l := slices.Collect(seq); !slices.Equal(l, want) {
		t.Error(len(l), "want", len(want))
	}
}

func TestR1NoIteratorIsNil(t *testing.T) {
	for _, m := range append(wrongMatrices(), same, api.Matrix{}) {
		for _, l := range append(wrongSegments(), nil, mixed()) {
			if All(m, l...) == nil {
				t.Error("nil", m, l)
			}
		}
	}
}

// A curve from bound to bound has more pieces than layer 12 counts: all of them are told.
func TestP13_1ManyChords(t *testing.T) {
	c := bow(most, most, -most, most, most, -most, -most, -most)
	l := list(moveTo(most, most), cubicTo(c.Q, c.R, c.S))
	want := append(flat.Chords(c), api.Edge{P: c.S, Q: c.P})
	if len(want) < 5000 {
		t.Error(len(want))
	}
	checkWords(t, same, l, want)
	if l := told(All(same, l...), math.MaxInt); !slices.Equal(l, want) {
		t.Error(len(l))
	}
}
