package flat

import (
	"testing"

	"pointillist/api"
)

// placed is the curve and what it is cut into, moved as a whole: nothing rounds otherwise, as all is moved by whole numbers.
func placed(c api.Curve, by api.Point) api.Curve {
	for _, q := range []*api.Point{&c.P, &c.Q, &c.R, &c.S} {
		q.X, q.Y = q.X+by.X, q.Y+by.Y
	}
	return c
}

func allPlaced(l []api.Curve, by api.Point) []api.Curve {
	var other []api.Curve
	for _, c := range l {
		other = append(other, placed(c, by))
	}
	return other
}

// checkPlaced checks a curve whose numbers are told along one axis, on either axis and on both, at some places, and backwards, where
// nothing is rounded.
func checkPlaced(t *testing.T, l [4]int64, pieces ...[4]int64) {
	t.Helper()
	for _, both := range []bool{false, true} {
		for axis := range 2 {
			on := func(n [4]int64) api.Curve {
				if both {
					return along(axis, n, n)
				}
				return along(axis, n, [4]int64{})
			}
			var want []api.Curve
			for _, n := range pieces {
				want = append(want, on(n))
			}
			for _, by := range []api.Point{{}, p(-7, 12345), p(1<<32, -1<<32), p(bound-1<<13, 1<<13-bound)} {
				checkBoth(t, placed(on(l), by), allPlaced(want, by)...)
				checkBoth(t, back(placed(on(l), by)), backwards(allPlaced(want, by))...)
			}
		}
	}
}

func TestP12_1AFlatCurveIsItsOwnPiece(t *testing.T) {
	for _, l := range [][4]int64{
		{}, {5, 5, 5, 5}, {0, 4, 8, 12}, {0, 1000, 2000, 3000}, {0, 512, 512, 0}, {0, -512, -512, 0}, {0, 170, -170, 0}, {0, 0, 512, 1536}, {0, 0, -512, -1536},
	} {
		checkPlaced(t, l, l)
	}
	for _, c := range []api.Curve{
		{P: p(0, 0), Q: p(1000, 512), R: p(2000, 512), S: p(3000, 0)},
		{P: p(-bound, bound), Q: p(-bound, bound), R: p(-bound, bound), S: p(-bound, bound)},
		{P: p(-bound, bound), Q: p(512-bound, bound-512), R: p(1024-bound, bound-1024), S: p(1536-bound, bound-1536)},
		{P: p(-3<<38, -3<<38), Q: p(-1<<38, -1<<38), R: p(1<<38, 1<<38), S: p(3<<38, 3<<38)},
	} {
		checkBoth(t, c, c)
	}
}

func TestP12_1OneCut(t *testing.T) {
	checkBoth(t, api.Curve{P: p(0, 0), Q: p(1000, 1024), R: p(2000, 1024), S: p(3000, 0)},
		api.Curve{P: p(0, 0), Q: p(500, 512), R: p(1000, 768), S: p(1500, 768)},
		api.Curve{P: p(1500, 768), Q: p(2000, 768), R: p(2500, 512), S: p(3000, 0)})
	checkPlaced(t, [4]int64{0, 1024, 1024, 0}, [4]int64{0, 512, 768, 768}, [4]int64{768, 768, 512, 0})
	checkPlaced(t, [4]int64{0, -1024, -1024, 0}, [4]int64{0, -512, -768, -768}, [4]int64{-768, -768, -512, 0})
	checkPlaced(t, [4]int64{0, 0, 0, 1024}, [4]int64{0, 0, 0, 128}, [4]int64{128, 256, 512, 1024})
	checkPlaced(t, [4]int64{0, 2048, 2048, 0}, [4]int64{0, 1024, 1536, 1536}, [4]int64{1536, 1536, 1024, 0}) // by just 512
}

// The first part is flat, the second one is cut anew; backwards it is the first one that is.
func TestP12_1TwoCutsOnOneSideAndOneOnTheOther(t *testing.T) {
	checkPlaced(t, [4]int64{0, 0, 0, 4096},
		[4]int64{0, 0, 0, 512}, [4]int64{512, 768, 1152, 1728}, [4]int64{1728, 2304, 3072, 4096})
	checkPlaced(t, [4]int64{0, 0, 0, -4096},
		[4]int64{0, 0, 0, -512}, [4]int64{-512, -768, -1152, -1728}, [4]int64{-1728, -2304, -3072, -4096})
}

// Two sides of two cuts, and one of three beside others of two and one.
func TestP12_1MoreCuts(t *testing.T) {
	checkPlaced(t, [4]int64{0, 4096, 4096, 0},
		[4]int64{0, 1024, 1792, 2304}, [4]int64{2304, 2816, 3072, 3072}, [4]int64{3072, 3072, 2816, 2304}, [4]int64{2304, 1792, 1024, 0})
	cuts := func(c api.Curve) (l []int) {
		for _, g := range checkWords(t, c) {
			l = append(l, g.cuts)
		}
		return l
	}
	l := cuts(api.Curve{S: p(16384, 0)})
	if len(l) != 6 || l[0] != 2 || l[1] != 2 || l[2] != 3 || l[5] != 3 {
		t.Error(l)
	}
	checkPieces(t, api.Curve{S: p(0, 12000)}, // rounded: 1500, 3000, 6000 behind one cut
		along(1, [4]int64{0, 0, 0, 188}, [4]int64{}), along(1, [4]int64{188, 375, 750, 1500}, [4]int64{}),
		along(1, [4]int64{1500, 1875, 2344, 2930}, [4]int64{}), along(1, [4]int64{2930, 3516, 4219, 5063}, [4]int64{}),
		along(1, [4]int64{5063, 5907, 6891, 8040}, [4]int64{}), along(1, [4]int64{8040, 9188, 10500, 12000}, [4]int64{}))
}

// bent is a curve from 0 on whose two sums along an axis are these.
func bent(axis int, first, second int64, rest [4]int64) api.Curve {
	return along(axis, [4]int64{0, 0, first, 2*first + second}, rest)
}

// Each of the four sums, the other ones within: of 512 and less it is one piece, of 513 and more two.
func TestP12_1SumsAtTheEdge(t *testing.T) {
	for axis := range 2 {
		for _, rest := range [][4]int64{{}, {0, 1000, 2000, 3000}, {0, 0, 512, 1536}, {0, 512, 512, 0}, {-bound, -bound, -bound, -bound}} {
			for _, other := range []int64{0, 1, -1, 511, 512, -511, -512} {
				for n, want := range map[int64]int{0: 1, 511: 1, -511: 1, 512: 1, -512: 1, 513: 2, -513: 2, 514: 2, -514: 2, 1024: 2, -1024: 2} {
					for _, c := range []api.Curve{bent(axis, n, other, rest), bent(axis, other, n, rest)} {
						checkWords(t, c)
						if got := Count(c); got != want {
							t.Error(c, got, "want", want)
						}
					}
				}
			}
		}
	}
}

// The same of what comes of one cut and of two: sums of 4 and of 16 times as much about what is just flat.
func TestP12_1SumsAtTheEdgeBehindCuts(t *testing.T) {
	count := map[int]int{}
	for axis := range 2 {
		for _, times := range []int64{4, 16} {
			for n := 512*times - 12; n <= 512*times+12; n++ {
				for _, c := range []api.Curve{
					bent(axis, n, n, [4]int64{}), bent(axis, -n, -n, [4]int64{}), bent(axis, n, -n, [4]int64{}), bent(axis, n, 0, [4]int64{}), bent(axis, 0, -n, [4]int64{}),
				} {
					checkWords(t, c)
					count[Count(c)]++
				}
			}
		}
	}
	for _, n := range []int{2, 3, 4, 5, 6, 8} {
		if count[n] == 0 {
			t.Error("none", n, count)
		}
	}
}

func TestP12_1APoint(t *testing.T) {
	for _, q := range []api.Point{{}, p(5, 5), p(-1, 1), p(bound, -bound), p(-bound, bound), p(1-bound, bound-1)} {
		c := api.Curve{P: q, Q: q, R: q, S: q}
		checkBoth(t, c, c)
	}
}

// corners are curves whose numbers are all at either bound.
func corners(size int64) (l []api.Curve) {
	at := func(k int) (n [4]int64) {
		for i := range n {
			n[i] = size
			if k>>i&1 == 1 {
				n[i] = -size
			}
		}
		return n
	}
	for k := range 16 {
		l = append(l, along(k&1, at(k), at(k*7+3)))
	}
	return l
}

// No curve that is right has pieces that come of more than 17 cuts: its sums are 2^42 at most, and a quarter behind each cut.
func TestP12_1NumbersAtTheBounds(t *testing.T) {
	deepest := 0
	for _, c := range corners(bound) {
		deepest = max(deepest, deepestOf(checkWords(t, c)))
	}
	for _, c := range corners(bound - 1)[5:7] {
		deepest = max(deepest, deepestOf(checkWords(t, c)))
	}
	if deepest != 17 {
		t.Error(deepest)
	}
}

// So it takes numbers beyond layer 11's bound, though such as are cut by its words yet, to meet the 20 cuts.
func TestP12_1PiecesOf20CutsArentCut(t *testing.T) {
	for _, c := range []struct {
		l    [4]int64
		bent bool
	}{
		{[4]int64{-1 << 46, 1 << 46, -1 << 46, 1 << 46}, false},
		{[4]int64{0, 0, 0, 1 << 50}, true},
	} {
		bent, early := 0, 0
		for _, g := range checkWords(t, along(1, c.l, [4]int64{0, 1, 2, 3})) {
			switch {
			case g.cuts < 20:
				early++
			case !wordsFlat(g.piece):
				bent++
			}
		}
		if bent > 0 != c.bent || early == 0 {
			t.Error(c, bent, early)
		}
	}
}

// Whatever is bent by little or by much, anywhere.
func TestP12_1HoldsOfMixedCurves(t *testing.T) {
	var mix mixer
	count := map[int]int{}
	for i := range 20000 {
		l := checkWords(t, mix.bowed(1<<(9+i%12)))
		count[deepestOf(l)]++
	}
	for i := range 40 {
		l := checkWords(t, mix.curve(1<<(20+i%21)))
		count[deepestOf(l)]++
	}
	for cuts := range 16 {
		if n := count[cuts]; n < 500 && cuts < 6 || n == 0 {
			t.Error("too few", cuts, count)
		}
	}
}
