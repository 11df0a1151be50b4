package strip

import (
	"slices"
	"testing"

	"pointillist/api"
)

// several are edges of which each goes otherwise.
func several() (l []api.Edge) {
	for _, xs := range across() {
		for _, a := range heights() {
			for _, b := range heights() {
				if a != b {
					l = append(l, edge(xs[0], a, xs[1], b))
				}
			}
		}
	}
	return l
}

// Where one strip leaves its row the next one comes into its own, at one X.
func TestP15_2NeighboursJoin(t *testing.T) {
	for _, e := range several() {
		var behind row
		n := 0
		for r, s := range All(e, 6) {
			step, leave, come := 1, int64(one), int64(0)
			if e.P.Y > e.Q.Y {
				step, leave, come = -1, 0, one
			}
			if n > 0 && (r != behind.r+step || s.X0 != behind.s.X1 || behind.s.Y1 != leave || s.Y0 != come) {
				t.Error(e, behind, r, s)
			}
			behind, n = row{r, s}, n+1
		}
	}
}

func TestP15_2TogetherTheyGoDownAsFarAsTheEdge(t *testing.T) {
	for _, height := range []int{0, 1, 5, 11} {
		bottom := int64(height) * one
		for _, e := range several() {
			want := min(max(e.Q.Y, 0), bottom) - min(max(e.P.Y, 0), bottom)
			down := int64(0)
			for _, s := range All(e, height) {
				down += s.Y1 - s.Y0
			}
			if down != want {
				t.Error(e, height, down, "want", want)
			}
		}
	}
}

func TestP15_2WholeEdgesGoFromEndToEnd(t *testing.T) {
	for _, e := range several() {
		if min(e.P.Y, e.Q.Y) < 0 || max(e.P.Y, e.Q.Y) > 10*one {
			continue
		}
		l := collect(All(e, 10))
		first, last := l[0], l[len(l)-1]
		begin := api.Point{X: first.s.X0, Y: int64(first.r)*one + first.s.Y0}
		end := api.Point{X: last.s.X1, Y: int64(last.r)*one + last.s.Y1}
		if begin != e.P || end != e.Q {
			t.Error(e, begin, end)
		}
	}
}

func checkTurned(t *testing.T, e api.Edge, height int) {
	t.Helper()
	want := collect(All(e, height))
	slices.Reverse(want)
	for i, w := range want {
		want[i] = at(w.r, w.s.X1, w.s.Y1, w.s.X0, w.s.Y0)
	}
	if got := collect(All(turned(e), height)); !slices.Equal(got, want) {
		t.Error(e, height, got, "want", want)
	}
}

func TestP15_2EdgesTurnedAbout(t *testing.T) {
	for _, e := range several() {
		checkTurned(t, e, 5)
	}
	checkTurned(t, edge(-bound, -bound, bound-1, bound), 4096)
	checkTurned(t, edge(12345, 98765, -bound, 3000*one+1), 4096)
}

// The Xs at the rows' ends lie half-way between two numbers here: each goes to the greater one, whichever way the edge goes.
func TestP15_2EdgesTurnedAboutAtHalves(t *testing.T) {
	for _, x := range []int64{0, 4, -1, -2, -3, -bound, bound - 1} {
		for _, e := range []api.Edge{edge(x, 0, x+1, 2*one), edge(x+1, 0, x, 2*one)} {
			check(t, e, 2, at(0, e.P.X, 0, x+1, 65536), at(1, x+1, 0, e.Q.X, 65536))
			check(t, turned(e), 2, at(1, e.Q.X, 65536, x+1, 0), at(0, x+1, 65536, e.P.X, 0))
			checkTurned(t, e, 2)
		}
	}
}

func TestP15_2XOfEdgesTurnedAbout(t *testing.T) {
	for _, e := range several() {
		for _, y := range between(e) {
			if a, b := X(e, y), X(turned(e), y); a != b {
				t.Error(e, y, a, b)
			}
		}
	}
}

// Of each picture that has a row the same strip comes.
func TestP15_2TallerPicturesGoOn(t *testing.T) {
	for _, e := range several() {
		tall := collect(All(e, 8))
		for height := range 8 {
			want := slices.DeleteFunc(slices.Clone(tall), func(s row) bool { return s.r >= height })
			if got := collect(All(e, height)); !slices.Equal(got, want) {
				t.Error(e, height, got, "want", want)
			}
		}
	}
}
