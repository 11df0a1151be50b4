package flat

import (
	"iter"
	"slices"
	"testing"

	"pointillist/api"
)

// several are curves of 1, 2, 3, 4, 6 and of many pieces.
func several() []api.Curve {
	return []api.Curve{
		{S: p(512, 0)}, {S: p(0, 1024)}, {S: p(4096, 0)}, {Q: p(0, 4096), R: p(4096, 4096), S: p(4096, 0)}, {S: p(-16384, 0)},
		{Q: p(1<<20, 1<<22), R: p(-1<<22, 3), S: p(1<<20, -1<<21)},
	}
}

// told is what an iterator tells one who stops at that one, counted from 1 on.
func told[T any](seq iter.Seq[T], at int) (l []T) {
	for x := range seq {
		if l = append(l, x); len(l) == at {
			break
		}
	}
	return l
}

// asked is how often one is told something who says no at that time, counted from 1 on.
func asked[T any](seq iter.Seq[T], at int) int {
	n := 0
	seq(func(T) bool {
		n++
		return n < at
	})
	return n
}

// checkStops stops at the first one, at each one between and at the last one, and behind it.
func checkStops[T comparable](t *testing.T, seq iter.Seq[T], want []T) {
	t.Helper()
	for at := 1; at <= len(want)+1; at++ {
		n := min(at, len(want))
		if l := told(seq, at); !slices.Equal(l, want[:n]) {
			t.Error(at, l, "want", want[:n])
		}
		if got := asked(seq, at); got != n {
			t.Error(at, got, "want", n)
		}
	}
	if l := slices.Collect(seq); !slices.Equal(l, want) { // from the beginning on, behind all these
		t.Error(l, "want", want)
	}
}

// checkAnew goes through twice, the second time from within the first one as well, and through two at once.
func checkAnew[T comparable](t *testing.T, seq iter.Seq[T], want []T) {
	t.Helper()
	for range 2 {
		var l []T
		for x := range seq {
			if len(l) < 3 && asked(seq, len(want)+1) != len(want) {
				t.Error("from within", len(l))
			}
			l = append(l, x)
		}
		if !slices.Equal(l, want) {
			t.Error(l, "want", want)
		}
	}
	one, stopOne := iter.Pull(seq)
	defer stopOne()
	other, stopOther := iter.Pull(seq)
	defer stopOther()
	one()
	for i := range want {
		x, ok := other()
		if !ok || x != want[i] {
			t.Error(i, x, ok)
		}
		y, ok := one()
		if last := i+1 == len(want); ok == last || !last && y != want[i+1] {
			t.Error(i, y, ok)
		}
	}
}

func endsOf(l []api.Curve) (ends []api.Point) {
	for _, c := range l {
		ends = append(ends, c.S)
	}
	return ends
}

func TestP12_1PiecesStop(t *testing.T) {
	for _, c := range several() {
		checkStops(t, Pieces(c), wordsPieces(c))
	}
}

func TestP12_1PointsStop(t *testing.T) {
	for _, c := range several() {
		checkStops(t, Points(c), endsOf(wordsPieces(c)))
	}
}

func TestR6PiecesAreGoneThroughAnew(t *testing.T) {
	for _, c := range several() {
		checkAnew(t, Pieces(c), wordsPieces(c))
	}
}

func TestR6PointsAreGoneThroughAnew(t *testing.T) {
	for _, c := range several() {
		checkAnew(t, Points(c), endsOf(wordsPieces(c)))
	}
}

func TestP12_1PointsAreTheEnds(t *testing.T) {
	for _, c := range []struct {
		curve api.Curve
		want  []api.Point
	}{
		{api.Curve{}, []api.Point{{}}},
		{api.Curve{P: p(5, 5), Q: p(5, 5), R: p(5, 5), S: p(5, 5)}, []api.Point{p(5, 5)}},
		{api.Curve{P: p(1, 2), Q: p(3, 4), R: p(5, 6), S: p(7, 8)}, []api.Point{p(7, 8)}},
		{api.Curve{P: p(0, 0), Q: p(1000, 1024), R: p(2000, 1024), S: p(3000, 0)}, []api.Point{p(1500, 768), p(3000, 0)}},
		{api.Curve{S: p(4096, 0)}, []api.Point{p(512, 0), p(1728, 0), p(4096, 0)}},
		{api.Curve{P: p(0, 4096)}, []api.Point{p(0, 1728), p(0, 512), {}}},
		{api.Curve{P: p(1350, 9), Q: p(-1050, 9), R: p(-250, 9), S: p(3750, 9)}, []api.Point{p(150, 9), p(150, 9), p(1350, 9), p(3750, 9)}}, // one of them twice
	} {
		if l := slices.Collect(Points(c.curve)); !slices.Equal(l, c.want) {
			t.Error(c.curve, l, "want", c.want)
		}
		checkWords(t, c.curve)
	}
}
