package flat

import (
	"testing"

	"pointillist/api"
)

func checkCount(t *testing.T, c api.Curve, pieces int) {
	t.Helper()
	if l := checkWords(t, c); len(l) != pieces {
		t.Error(c, len(l), "want", pieces)
	}
	if n := Count(c); n != min(pieces, 4096) {
		t.Error(c, n, "want", pieces)
	}
}

func TestP12_2CountOfFew(t *testing.T) {
	checkCount(t, api.Curve{}, 1)
	checkCount(t, api.Curve{Q: p(1000, 512), R: p(2000, 512), S: p(3000, 0)}, 1)
	checkCount(t, api.Curve{Q: p(1000, 1024), R: p(2000, 1024), S: p(3000, 0)}, 2)
	checkCount(t, api.Curve{S: p(4096, 0)}, 3)
	checkCount(t, api.Curve{Q: p(0, 4096), R: p(0, 4096)}, 4)
}

// Pieces whose ends are one point are counted, too.
func TestP12_2CountOfPiecesThatGoNowhere(t *testing.T) {
	checkCount(t, api.Curve{Q: p(200, 0), R: p(-200, 0)}, 2)
	checkCount(t, api.Curve{P: p(1350, 0), Q: p(-1050, 0), R: p(-250, 0), S: p(3750, 0)}, 4)
}

func TestP12_2CountAbout4096(t *testing.T) {
	for pieces, far := range map[int]int64{4094: 9813141892, 4095: 9814791410, 4096: 9814851260, 4097: 9817292796, 4098: 9817816764} {
		checkCount(t, api.Curve{S: p(far, 0)}, pieces)
		checkCount(t, api.Curve{S: p(0, far)}, pieces)
	}
	// All pieces come of 12 cuts here, and of 13.
	checkCount(t, along(0, [4]int64{0, 0, 3 << 31, 9 << 31}, [4]int64{}), 4096)
	checkCount(t, along(1, [4]int64{0, 0, 3 << 33, 9 << 33}, [4]int64{}), 8192)
}

func TestP12_2CountOfMany(t *testing.T) {
	for _, c := range corners(bound) {
		want := 4096
		if n := sums(c); n == [4]int64{} {
			want = 1
		}
		if n := Count(c); n != want {
			t.Error(c, n)
		}
	}
	if n := Count(api.Curve{P: p(-bound, 0), Q: p(bound, bound), R: p(-bound, bound), S: p(bound, 0)}); n != 4096 {
		t.Error(n)
	}
}
