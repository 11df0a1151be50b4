package flat

import (
	"slices"
	"testing"

	"pointillist/api"
)

func checkChords(t *testing.T, c api.Curve, pieces int, want ...api.Point) {
	t.Helper()
	var l []api.Edge
	for i := 1; i < len(want); i++ {
		l = append(l, api.Edge{P: want[i-1], Q: want[i]})
	}
	if got := Chords(c); !slices.Equal(got, l) {
		t.Error(c, got, "want", l)
	}
	if n := Count(c); n != pieces {
		t.Error(c, n, "want", pieces)
	}
	checkWords(t, c)
}

// onAxes checks chords along X and along Y, the other number being always 9, and backwards.
func onAxes(t *testing.T, l [4]int64, pieces int, ends ...int64) {
	t.Helper()
	for axis := range 2 {
		var want []api.Point
		for _, n := range ends {
			want = append(want, along(axis, [4]int64{n}, [4]int64{9}).P)
		}
		c := along(axis, l, [4]int64{9, 9, 9, 9})
		checkChords(t, c, pieces, want...)
		slices.Reverse(want)
		checkChords(t, back(c), pieces, want...)
	}
}

func TestP12_2Chords(t *testing.T) {
	checkChords(t, api.Curve{P: p(1, 2), Q: p(3, 4), R: p(5, 6), S: p(7, 8)}, 1, p(1, 2), p(7, 8))
	checkChords(t, api.Curve{Q: p(1000, 1024), R: p(2000, 1024), S: p(3000, 0)}, 2, p(0, 0), p(1500, 768), p(3000, 0))
	onAxes(t, [4]int64{0, 4, 8, 12}, 1, 0, 12)
	onAxes(t, [4]int64{-5, -5, -5, -4}, 1, -5, -4) // one more on one axis alone
	onAxes(t, [4]int64{0, 0, 0, 4096}, 3, 0, 512, 1728, 4096)
	onAxes(t, [4]int64{bound, bound, bound, bound - 4096}, 3, bound, bound-512, bound-1728, bound-4096)
	onAxes(t, [4]int64{-bound, -bound, -bound, 4096 - bound}, 3, -bound, 512-bound, 1728-bound, 4096-bound)
}

// Backwards it is the last one that is left out.
func TestP12_2ChordsLeftOutAtAnEnd(t *testing.T) {
	onAxes(t, [4]int64{0, 300, 0, -900}, 2, 0, -900)
	onAxes(t, [4]int64{7, -293, 7, 907}, 2, 7, 907)
	onAxes(t, [4]int64{bound - 400, bound - 100, bound - 400, bound - 1300}, 2, bound-400, bound-1300)
}

func TestP12_2ChordsLeftOutBetween(t *testing.T) {
	onAxes(t, [4]int64{1350, -1050, -250, 3750}, 4, 1350, 150, 1350, 3750) // from 150 to 150
	onAxes(t, [4]int64{-1350, 1050, 250, -3750}, 4, -1350, -150, -1350, -3750)
}

func TestP12_2ChordsThatAreAllLeftOut(t *testing.T) {
	onAxes(t, [4]int64{9, 9, 9, 9}, 1)
	onAxes(t, [4]int64{0, 512, 512, 0}, 1)
	onAxes(t, [4]int64{0, 170, -170, 0}, 1)
	onAxes(t, [4]int64{0, 200, -200, 0}, 2)
	onAxes(t, [4]int64{bound, bound, bound, bound}, 1)
	checkChords(t, api.Curve{P: p(5, 6), Q: p(205, -194), R: p(-195, 206), S: p(5, 6)}, 2)
	for _, q := range []api.Point{{}, p(5, 5), p(-bound, bound)} {
		checkChords(t, api.Curve{P: q, Q: q, R: q, S: q}, 1)
	}
}

// Ends that are the same in X alone, or in Y alone, aren't one point.
func TestP12_2ChordsThatGoAlongOneAxis(t *testing.T) {
	checkChords(t, api.Curve{P: p(0, 0), Q: p(300, 100), R: p(0, 200), S: p(-900, 300)}, 2, p(0, 0), p(0, 150), p(-900, 300))
	checkChords(t, api.Curve{P: p(0, 0), Q: p(100, 300), R: p(200, 0), S: p(300, -900)}, 2, p(0, 0), p(150, 0), p(300, -900))
	checkChords(t, api.Curve{P: p(0, 0), Q: p(0, 0), R: p(1, 0), S: p(1, 0)}, 1, p(0, 0), p(1, 0))
	checkChords(t, api.Curve{P: p(1, 0), Q: p(0, 0), R: p(0, 0), S: p(1, 1)}, 1, p(1, 0), p(1, 1))
}

// All curves of few steps, in which chords are left out at each place.
func TestP12_2ChordsOfSmallCurves(t *testing.T) {
	const n, step = 3, 150
	count := map[int]int{}
	for a := int64(-n); a <= n; a++ {
		for b := int64(-n); b <= n; b++ {
			for c := int64(-2 * n); c <= 2*n; c++ {
				q := along(0, [4]int64{0, 2 * a * step, 2 * b * step, c * step}, [4]int64{})
				checkWords(t, q)
				count[Count(q)-len(Chords(q))]++
			}
		}
	}
	if count[0] < 100 || count[1] < 10 || count[2] == 0 {
		t.Error("too few", count)
	}
}

// What is written into an answer, spare room included, makes no difference to another one.
func TestR4ChordsAreNewMemory(t *testing.T) {
	for _, c := range several() {
		want := wordsChords(c, endsOf(wordsPieces(c)))
		first, second := Chords(c), Chords(c)
		first = first[:cap(first)]
		for i := range first {
			first[i] = api.Edge{P: p(1, 2), Q: p(3, 4)}
		}
		if !slices.Equal(second, want) || !slices.Equal(Chords(c), want) {
			t.Error(c, second, "want", want)
		}
	}
}
