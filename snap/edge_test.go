package snap

import (
	"testing"

	"pointillist/api"
)

func TestP14_1Edge(t *testing.T) {
	checkEdge(t, edge(3, 1000, 600, 2000), edge(0, 1024, 1024, 2048), true)  // down
	checkEdge(t, edge(600, 2000, 3, 1000), edge(1024, 2048, 0, 1024), true)  // up
	checkEdge(t, edge(1024, 0, 2048, 4096), edge(1024, 0, 2048, 4096), true) // as it was
	checkEdge(t, edge(5000, -700, -5000, 700), edge(5120, -1024, -5120, 1024), true)
	checkEdge(t, edge(-bound, bound, bound, -bound), edge(-bound, bound, bound, -bound), true)
	checkEdge(t, edge(bound-513, -bound+511, -bound+512, bound-512), edge(bound-1024, -bound, -bound+1024, bound), true)
}

// Ends that lie one apart may come to lie a whole step apart.
func TestP14_1EdgeThatGrows(t *testing.T) {
	checkEdge(t, edge(0, 511, 0, 512), edge(0, 0, 0, 1024), true)
	checkEdge(t, edge(0, 512, 0, 511), edge(0, 1024, 0, 0), true)
	checkEdge(t, edge(0, -513, 0, -512), edge(0, -1024, 0, 0), true)
	checkEdge(t, edge(0, -512, 0, -513), edge(0, 0, 0, -1024), true)
}

func TestP14_1EdgesThatShareAnXAlone(t *testing.T) {
	checkEdge(t, edge(7, 0, 7, 2000), edge(0, 0, 0, 2048), true)
	checkEdge(t, edge(512, 3000, 512, -3000), edge(1024, 3072, 1024, -3072), true)
	checkEdge(t, edge(1, 2, 511, 600), edge(0, 0, 0, 1024), true) // only when they are snapped
}

func TestP14_1EdgesThatGoNowhere(t *testing.T) {
	for _, e := range list(
		api.Edge{}, edge(9, 9, 9, 9), edge(1024, 2048, 1024, 2048), edge(bound, -bound, bound, -bound), // one point
		edge(0, 0, 5000, 0), edge(5000, 77, 0, 77), edge(-bound, 512, bound, 512), edge(0, -bound, 9999, -bound), // one Y
	) {
		checkEdge(t, e, api.Edge{}, false)
	}
}

func TestP14_1EdgesThatGoNowhereOnlyWhenSnapped(t *testing.T) {
	for _, e := range list(
		edge(0, 0, 5000, 511), edge(0, 511, 5000, -512), edge(5000, -512, 0, 511), edge(0, 512, 5000, 1535), edge(0, 1535, 5000, 512),
		edge(0, -513, 5000, -1536), edge(9000, bound-512, 0, bound), edge(9000, -bound, 0, -bound+511),
		edge(0, 0, 1, 1), edge(511, 511, -512, -512), edge(7, 512, 7, 1535), // these become one point
	) {
		checkEdge(t, e, api.Edge{}, false)
	}
}

// The ends' numbers are snapped each by itself, at their own places.
func TestP14_1EdgeNumberByNumber(t *testing.T) {
	few := []int64{-bound, -1537, -1536, -513, -512, -1, 0, 511, 512, 1023, 1024, 1535, 1536, bound}
	for _, a := range few {
		for _, b := range few {
			for _, c := range few {
				for _, d := range few {
					e := edge(a, b, c, d)
					if want := wordsEdges(list(e)); len(want) == 0 {
						checkEdge(t, e, api.Edge{}, false)
					} else {
						checkEdge(t, e, want[0], true)
					}
				}
			}
		}
	}
}

func TestP14_3EdgesStayAndLieNear(t *testing.T) {
	for _, x := range several() {
		for _, y := range several() {
			e := edge(x, y, y, x)
			s, ok := Edge(e)
			if !ok {
				continue
			}
			checkEdge(t, s, s, true)
			if max(far(s.P.X, x), far(s.P.Y, y), far(s.Q.X, y), far(s.Q.Y, x)) > 512 {
				t.Error(e, s)
			}
		}
	}
}
