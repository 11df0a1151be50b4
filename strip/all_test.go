package strip

import (
	"iter"
	"slices"
	"testing"

	"pointillist/api"
)

// The chapter's example.
func TestP15_1AllExample(t *testing.T) {
	check(t, edge(0, 0, 2*one, 2*one), 4, at(0, 0, 0, 65536, 65536), at(1, 65536, 0, 131072, 65536))
	check(t, edge(2*one, 2*one, 0, 0), 4, at(1, 131072, 65536, 65536, 0), at(0, 65536, 65536, 0, 0))
}

func TestP15_1AllWithinOneRow(t *testing.T) {
	for _, height := range []int{6, 7, 4096} {
		check(t, edge(10, 5*one+100, -30, 5*one+200), height, at(5, 10, 100, -30, 200))
		check(t, edge(10, 5*one+200, -30, 5*one+100), height, at(5, 10, 200, -30, 100))
		check(t, edge(7, 5*one, 8, 6*one), height, at(5, 7, 0, 8, 65536))
		check(t, edge(7, 6*one, 8, 5*one), height, at(5, 7, 65536, 8, 0))
		check(t, edge(7, 5*one, 7, 5*one+1), height, at(5, 7, 0, 7, 1))
		check(t, edge(7, 6*one, 7, 6*one-1), height, at(5, 7, 65536, 7, 65535))
	}
}

// Where an edge begins or ends just where a row does, the row beyond has only one height of it.
func TestP15_1AllBeginsOrEndsWithARow(t *testing.T) {
	check(t, edge(0, one, 0, one+500), 4, at(1, 0, 0, 0, 500))
	check(t, edge(0, one+500, 0, one), 4, at(1, 0, 500, 0, 0))
	check(t, edge(0, one, 0, one-500), 4, at(0, 0, 65536, 0, 65036))
	check(t, edge(0, one-500, 0, one), 4, at(0, 0, 65036, 0, 65536))
	check(t, edge(0, one/2, 8, 2*one), 4, at(0, 0, 32768, 3, 65536), at(1, 3, 0, 8, 65536))
	check(t, edge(0, one, 8, 2*one+one/2), 4, at(1, 0, 0, 5, 65536), at(2, 5, 0, 8, 32768))
	check(t, edge(0, one-1, 0, one+1), 4, at(0, 0, 65535, 0, 65536), at(1, 0, 0, 0, 1))
	check(t, edge(0, one+1, 0, one-1), 4, at(1, 0, 1, 0, 0), at(0, 0, 65536, 0, 65535))
}

func TestP15_1AllThroughManyRows(t *testing.T) {
	check(t, edge(0, one/2, one, 3*one+one/2), 9,
		at(0, 0, 32768, 10923, 65536), at(1, 10923, 0, 32768, 65536), at(2, 32768, 0, 54613, 65536), at(3, 54613, 0, 65536, 32768))
	check(t, edge(0, 3*one+one/2, one, one/2), 9,
		at(3, 0, 32768, 10923, 0), at(2, 10923, 65536, 32768, 0), at(1, 32768, 65536, 54613, 0), at(0, 54613, 65536, 65536, 32768))
	check(t, edge(0, one/2, -one, 3*one+one/2), 9,
		at(0, 0, 32768, -10923, 65536), at(1, -10923, 0, -32768, 65536), at(2, -32768, 0, -54613, 65536), at(3, -54613, 0, -65536, 32768))
	for _, e := range []api.Edge{edge(3, 700, -bound, 4000*one+9), edge(bound, 1, -bound, 4096*one-1), edge(8, 10*one, 8, 3000*one)} {
		checkWords(t, e, 4096)
		checkWords(t, turned(e), 4096)
	}
}

func TestP15_1AllBeginsAboveThePicture(t *testing.T) {
	e := edge(0, -one, 3*one, 2*one)
	check(t, e, 4, at(0, one, 0, 2*one, 65536), at(1, 2*one, 0, 3*one, 65536))
	check(t, turned(e), 4, at(1, 3*one, 65536, 2*one, 0), at(0, 2*one, 65536, one, 0))
	check(t, edge(0, -1, 2, 1), 4, at(0, 1, 0, 2, 1))
	check(t, edge(2, 1, 0, -1), 4, at(0, 2, 1, 1, 0))
	check(t, edge(-bound, -bound, bound, bound), 1, at(0, 0, 0, one, 65536))
}

func TestP15_1AllEndsBelowThePicture(t *testing.T) {
	e := edge(0, one, 3*one, 4*one)
	check(t, e, 2, at(1, 0, 0, one, 65536))
	check(t, turned(e), 2, at(1, one, 65536, 0, 0))
	check(t, e, 3, at(1, 0, 0, one, 65536), at(2, one, 0, 2*one, 65536))
	check(t, edge(0, 2*one-1, 2, 2*one+1), 2, at(1, 0, 65535, 1, 65536))
	check(t, edge(2, 2*one+1, 0, 2*one-1), 2, at(1, 1, 65536, 0, 65535))
	check(t, edge(0, -one, 6*one, 5*one), 2, at(0, one, 0, 2*one, 65536), at(1, 2*one, 0, 3*one, 65536))
}

func TestP15_1AllAboveOrBelowThePicture(t *testing.T) {
	for _, height := range []int{1, 2, 4096} {
		end := int64(height) * one
		for _, e := range []api.Edge{
			edge(0, -one, 0, 0), edge(5, -1, 9, 0), edge(5, -9*one, 9, -one), edge(0, -bound, 0, -bound+1), edge(0, -bound, 0, 0),
			edge(0, end, 0, end+one), edge(5, end, 9, end+1), edge(5, end+3*one, 9, end+9*one), edge(0, bound-1, 0, bound), edge(0, end, 0, bound),
		} {
			check(t, e, height)
			check(t, turned(e), height)
		}
	}
}

// A picture has no columns here: an edge that lies far to its side has strips as well.
func TestP15_1AllBesideThePicture(t *testing.T) {
	for _, x := range []int64{-bound, -9 * one, -1, 5000 * one, bound} {
		check(t, edge(x, one/2, x, one+one/2), 2, at(0, x, 32768, x, 65536), at(1, x, 0, x, 32768))
		check(t, edge(x, one+one/2, x, one/2), 2, at(1, x, 32768, x, 0), at(0, x, 65536, x, 32768))
	}
}

func TestP15_1AllOfPicturesOfAllHeights(t *testing.T) {
	all := edge(-bound, -bound, bound, bound)
	check(t, all, 0)
	check(t, turned(all), 0)
	check(t, edge(0, 0, 0, one), 0)
	check(t, edge(0, 0, 0, one), 1, at(0, 0, 0, 0, 65536))
	check(t, edge(0, -one, 0, 2*one), 1, at(0, 0, 0, 0, 65536))
	for _, height := range []int{4095, 4096} {
		checkWords(t, all, height)
		checkWords(t, turned(all), height)
		if l := collect(All(all, height)); len(l) != height || l[height-1] != at(height-1, int64(height-1)*one, 0, int64(height)*one, 65536) {
			t.Error(height, len(l))
		}
	}
}

func TestP15_1AllByTheWords(t *testing.T) {
	for _, height := range []int{0, 1, 2, 4, 5} {
		for _, xs := range across() {
			for _, a := range heights() {
				for _, b := range heights() {
					if a != b {
						checkWords(t, edge(xs[0], a, xs[1], b), height)
					}
				}
			}
		}
	}
}

func TestP15_1AllByTheWordsOfTallPictures(t *testing.T) {
	for _, a := range heights() {
		for _, b := range heights() {
			if a != b {
				checkWords(t, edge(-7*one, a, bound, b), 4096)
			}
		}
	}
}

// told is what one is told who says no at that time, counted from 1 on.
func told(seq iter.Seq2[int, api.Strip], no int) (l []row) {
	seq(func(r int, s api.Strip) bool {
		l = append(l, row{r, s})
		return len(l) < no
	})
	return l
}

// checkStops breaks off at each strip, the first one and the last one among them, and goes through anew each time.
func checkStops(t *testing.T, seq iter.Seq2[int, api.Strip], want []row) {
	t.Helper()
	for no := 1; no <= len(want)+1; no++ {
		n := min(no, len(want))
		if l := told(seq, no); !slices.Equal(l, want[:n]) {
			t.Error("asked at", no, l, "want", want[:n])
		}
		left := 0
		for r, s := range seq {
			if (row{r, s}) != want[left] {
				t.Error("at", left, r, s, want[left])
			}
			if left++; left == no {
				break
			}
		}
		if left != n {
			t.Error("left at", no, left, "want", n)
		}
	}
	for range 2 {
		if l := collect(seq); !slices.Equal(l, want) {
			t.Error("anew", l, "want", want)
		}
	}
}

func TestP15_1AllStops(t *testing.T) {
	for _, e := range []api.Edge{
		edge(0, -9, 5, 0), edge(0, 2, 5, 3), edge(0, one/2, 5, one+1), edge(3, -one, 8*one, 7*one+5), edge(-bound, -bound, bound, bound),
	} {
		for _, height := range []int{0, 1, 2, 5, 40} {
			checkStops(t, All(e, height), wordsStrips(e, height))
			checkStops(t, All(turned(e), height), wordsStrips(turned(e), height))
		}
	}
}

func TestP15_1AllOfManyRowsStops(t *testing.T) {
	all := edge(0, -bound, 0, bound)
	for _, no := range []int{1, 2, 2048, 4095, 4096} {
		if l := told(All(all, 4096), no); len(l) != no || l[no-1] != at(no-1, 0, 0, 0, one) {
			t.Error(no, len(l))
		}
		if l := told(All(turned(all), 4096), no); len(l) != no || l[no-1] != at(4096-no, 0, one, 0, 0) {
			t.Error(no, len(l))
		}
	}
}

// From within, and two at once, each goes from its own beginning on.
func TestR6AllIsGoneThroughAnew(t *testing.T) {
	down := edge(3, -one, 8*one, 7*one+5)
	for _, e := range []api.Edge{down, turned(down)} {
		want := wordsStrips(e, 6)
		seq := All(e, 6)
		n := 0
		for r, s := range seq {
			if l := told(seq, n+1); !slices.Equal(l, want[:n+1]) || (row{r, s}) != want[n] {
				t.Error(n, r, s, l)
			}
			n++
		}
		first, stopFirst := iter.Pull2(seq)
		defer stopFirst()
		other, stopOther := iter.Pull2(seq)
		defer stopOther()
		first()
		for i := range want[1:] {
			r, s, _ := first()
			q, u, _ := other()
			if (row{r, s}) != want[i+1] || (row{q, u}) != want[i] {
				t.Error(i, r, s, q, u)
			}
		}
	}
}

func TestR1NoIteratorIsNil(t *testing.T) {
	for _, height := range []int{-1, 0, 1, 4096} {
		for _, e := range []api.Edge{{}, edge(0, 0, 0, one), edge(0, one, 0, 0), edge(0, -2, 0, -1), edge(0, 5, 9, 5)} {
			if All(e, height) == nil {
				t.Error("nil", e, height)
			}
		}
	}
}

// An iterator has its edge by itself: what is written into the list that the edge stood in makes no difference.
func TestR4EdgeIsntKept(t *testing.T) {
	l := []api.Edge{edge(0, 0, 2*one, 2*one)}
	want := wordsStrips(l[0], 4)
	seq := All(l[0], 4)
	l[0] = edge(1, 2, 3, 4)
	n := 0
	for r, s := range seq {
		clear(l)
		if (row{r, s}) != want[n] {
			t.Error(n, r, s)
		}
		n++
	}
	if got := collect(seq); n != 2 || !slices.Equal(got, want) {
		t.Error(n, got)
	}
}
