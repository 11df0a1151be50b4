package snap

import (
	"slices"
	"testing"

	"pointillist/api"
)

const bound = 1 << 62

func p(x, y int64) api.Point { return api.Point{X: x, Y: y} }

func edge(a, b, c, d int64) api.Edge { return api.Edge{P: p(a, b), Q: p(c, d)} }

func list(l ...api.Edge) []api.Edge { return l }

// far is how far two numbers lie apart.
func far(a, b int64) int64 { return max(a-b, b-a) }

// wordsNumber is the chapter's word: of the multiples about n the nearest one, and of two the greater one.
func wordsNumber(n int64) int64 {
	best := (n/1024 - 1) * 1024
	for _, m := range []int64{best + 1024, best + 2048} {
		if far(m, n) <= far(best, n) {
			best = m
		}
	}
	return best
}

func wordsPoint(q api.Point) api.Point { return p(wordsNumber(q.X), wordsNumber(q.Y)) }

func wordsEdges(l []api.Edge) []api.Edge {
	var snapped []api.Edge
	for _, e := range l {
		snapped = append(snapped, api.Edge{P: wordsPoint(e.P), Q: wordsPoint(e.Q)})
	}
	return slices.DeleteFunc(snapped, func(e api.Edge) bool { return e.P.Y == e.Q.Y })
}

// several are numbers of which each is a class of its own: multiples, halves between two, their neighbours, both ends.
func several() []int64 {
	l := []int64{-bound, -bound + 1, bound - 1, bound}
	for _, base := range []int64{-bound + 4096, -1 << 48, -1 << 32, -5120, 0, 3072, 1 << 32, 1<<48 + 1024, bound - 4096} {
		for _, half := range []int64{-1024, -512, 0, 512, 1024} {
			l = append(l, base+half-1, base+half, base+half+1)
		}
	}
	return l
}

func checkEdge(t *testing.T, e, want api.Edge, ok bool) {
	t.Helper()
	if got, met := Edge(e); got != want || met != ok {
		t.Error(e, got, met, "want", want, ok)
	}
}

// check holds both lists against the edges that are wanted, and the words.
func check(t *testing.T, l, want []api.Edge) {
	t.Helper()
	if got := Edges(l...); !slices.Equal(got, want) {
		t.Error(l, got, "want", want)
	}
	if got := slices.Collect(All(l...)); !slices.Equal(got, want) {
		t.Error(l, "all", got, "want", want)
	}
	if words := wordsEdges(l); !slices.Equal(words, want) {
		t.Error(l, "words", words, "want", want)
	}
}
