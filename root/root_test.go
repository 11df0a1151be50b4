package root

import (
	"iter"
	"math"
	"math/big"
	"slices"
	"testing"
)

const (
	most      = math.MaxUint64
	greatest  = math.MaxInt64
	least     = math.MinInt64
	greatRoot = 1<<32 - 1 // the greatest number whose square has 64 bits
)

// edges are numbers about which bits, sizes and roots change.
func edges() []uint64 {
	l := []uint64{0, 1, 2, 3, 10, 17, 37, 360, 65535, 593011235, most / 3, most - 1, most}
	for s := range 64 {
		l = append(l, 1<<s-1, 1<<s, 1<<s+1)
	}
	slices.Sort(l)
	return slices.Compact(l)
}

// mixed are numbers of all sizes, made by a rule, the same ones each time.
func mixed(count int) []uint64 {
	l := make([]uint64, count)
	x := uint64(1)
	for i := range l {
		x = x*6364136223846793005 + 1442695040888963407
		y := x ^ x>>29
		l[i] = y >> (y >> 7 % 64)
	}
	return l
}

func whole(n uint64) *big.Int { return new(big.Int).SetUint64(n) }

func joined(hi, lo uint64) *big.Int {
	n := new(big.Int).Lsh(whole(hi), 64)
	return n.Add(n, whole(lo))
}

// parted tells the halves of a number of at most 128 bits.
func parted(n *big.Int) (hi, lo uint64) {
	rest := new(big.Int).And(n, whole(most))
	return new(big.Int).Rsh(n, 64).Uint64(), rest.Uint64()
}

func squared(n *big.Int) *big.Int { return new(big.Int).Mul(n, n) }

// isRoot is P2.3: the square of r isn't above n, that of the next number is.
func isRoot(r uint64, n *big.Int) bool {
	next := new(big.Int).Add(whole(r), big.NewInt(1))
	return squared(whole(r)).Cmp(n) <= 0 && squared(next).Cmp(n) > 0
}

// heads are what the steps to r come to: r's bits, from the highest one on, each number with one more of them.
func heads(r uint64) []uint64 {
	var l []uint64
	for s := 63; s >= 0; s-- {
		if r>>s&1 == 1 {
			l = append(l, r>>s<<s)
		}
	}
	return l
}

func TestP2_1Floor(t *testing.T) {
	for _, c := range []struct{ n, r uint64 }{
		{17, 4}, // the chapter's example
		{0, 0},
		{1, 1},
		{2, 1},
		{3, 1},
		{4, 2},
		{8, 2},
		{9, 3},
		{1<<32 - 1, 65535},
		{1 << 32, 65536},
		{1<<62 - 1, 1<<31 - 1},
		{1 << 62, 1 << 31},
		{1<<63 - 1, 3037000499},
		{1 << 63, 3037000499},
		{greatRoot*greatRoot - 1, greatRoot - 1},
		{greatRoot * greatRoot, greatRoot},
		{greatRoot*greatRoot + 1, greatRoot},
		{most - 1, greatRoot},
		{most, greatRoot},
	} {
		if r := Floor(c.n); r != c.r {
			t.Error(c, r)
		}
	}
}

func TestP2_1FloorOfEachSmallNumber(t *testing.T) {
	r := uint64(0)
	for n := range uint64(1 << 17) {
		if (r+1)*(r+1) == n {
			r++
		}
		if got := Floor(n); got != r {
			t.Fatal(n, got, "want", r)
		}
	}
}

func TestP2_1Wide(t *testing.T) {
	for _, c := range []struct{ hi, lo, r uint64 }{
		{0, 0, 0},
		{0, 1, 1},
		{0, 17, 4},
		{0, most, greatRoot},
		{1, 0, 1 << 32},
		{1, 1<<33 - 1, 1 << 32},
		{1, 1 << 33, 1 << 32},
		{1, 1<<33 + 1, 1<<32 + 1},
		{4, 0, 1 << 33},
		{3, most, 1<<33 - 1},
		{1<<62 - 1, most, 1<<63 - 1},
		{1 << 62, 0, 1 << 63},
		{1 << 62, most, 1 << 63},
		{1<<62 + 1, 0, 1 << 63},
		{1<<62 + 1, 1, 1<<63 + 1},
		{1 << 63, 0, 13043817825332782212},
		{most - 1, 0, most - 1}, // 1 less than the square of the greatest root
		{most - 1, 1, most},     // just it
		{most - 1, 2, most},
		{most, 0, most},
		{most, most, most},
	} {
		if r := Wide(c.hi, c.lo); r != c.r {
			t.Error(c, r)
		}
		if !isRoot(c.r, joined(c.hi, c.lo)) {
			t.Error("the table itself is wrong", c)
		}
	}
}

func TestP2_1WideOfANarrowNumberIsItsFloor(t *testing.T) {
	for _, n := range slices.Concat(edges(), mixed(1000)) {
		if f, w := Floor(n), Wide(0, n); f != w {
			t.Error(n, f, w)
		}
	}
}

func TestP2_1Hypot(t *testing.T) {
	for _, c := range []struct {
		x, y int64
		r    uint64
	}{
		{-3, 4, 5}, // the chapter's example
		{3, 4, 5},
		{3, -4, 5},
		{-3, -4, 5},
		{4, 3, 5},
		{0, 0, 0},
		{1, 0, 1},
		{0, -1, 1},
		{1, 1, 1},
		{-1, -1, 1},
		{2, 2, 2},
		{-5, 12, 13},
		{1 << 30, 0, 1 << 30},
		{1 << 32, 1 << 32, 6074000999},
		{-1<<32 + 1, 0, 1<<32 - 1},
		{greatest, 0, greatest},
		{0, -greatest, greatest},
		{least, 0, 1 << 63},
		{0, least, 1 << 63},
		{least, 1, 1 << 63},
		{greatest, greatest, 13043817825332782210},
		{least, greatest, 13043817825332782211},
		{greatest, least, 13043817825332782211},
		{least, least, 13043817825332782212},
	} {
		if r := Hypot(c.x, c.y); r != c.r {
			t.Error(c, r)
		}
	}
}

func TestP2_2Steps(t *testing.T) {
	for _, c := range []struct {
		n uint64
		l []uint64
	}{
		{17, []uint64{4}}, // the chapter's example
		{0, nil},
		{1, []uint64{1}},
		{3, []uint64{1}},
		{4, []uint64{2}},
		{8, []uint64{2}},
		{9, []uint64{2, 3}},
		{37, []uint64{4, 6}},
		{49, []uint64{4, 6, 7}},
		{100, []uint64{8, 10}},
		{1 << 62, []uint64{1 << 31}},
		{1<<62 + 1<<32, []uint64{1 << 31}},
		{1<<62 + 1<<32 + 1, []uint64{1 << 31, 1<<31 + 1}},
	} {
		if l := slices.Collect(Steps(c.n)); !slices.Equal(l, c.l) {
			t.Error(c, l)
		}
	}
	if l := slices.Collect(Steps(most)); !slices.Equal(l, heads(greatRoot)) || len(l) != 32 {
		t.Error(l)
	}
}

func TestP2_2StepsAreTheHeadsOfTheRoot(t *testing.T) {
	for _, n := range slices.Concat(edges(), mixed(2000)) {
		r := new(big.Int).Sqrt(whole(n)).Uint64()
		l := slices.Collect(Steps(n))
		if !slices.Equal(l, heads(r)) {
			t.Fatal(n, l, "want", heads(r))
		}
		if len(l) > 0 && l[len(l)-1] != Floor(n) {
			t.Error(n, l, Floor(n))
		}
	}
}

// taken goes through l, and asks it to stop behind count numbers.
func taken(l iter.Seq[uint64], count int) []uint64 {
	var got []uint64
	l(func(n uint64) bool {
		got = append(got, n)
		return len(got) < count
	})
	return got
}

func TestP2_2StepsStopWhenAsked(t *testing.T) {
	for _, n := range []uint64{1, 9, 49, 1<<62 + 1<<32 + 1, most} {
		all := slices.Collect(Steps(n))
		for count := 1; count <= len(all); count++ {
			if got := taken(Steps(n), count); !slices.Equal(got, all[:count]) {
				t.Error(n, count, got)
			}
		}
	}
	for n := range Steps(most) { // a loop that is left would panic, if it were gone on with
		if n != 1<<31 {
			t.Error(n)
		}
		break
	}
}

func TestP2_2StepsBeginAnew(t *testing.T) {
	for _, n := range []uint64{0, 1, 17, 49, most} {
		steps := Steps(n)
		if steps == nil {
			t.Fatal(n, "an iterator is never nil")
		}
		all := slices.Collect(Steps(n))
		taken(steps, 2)
		for range 2 {
			if l := slices.Collect(steps); !slices.Equal(l, all) {
				t.Error(n, l, "want", all)
			}
		}
	}
}

func TestP2_2StepsWithinSteps(t *testing.T) {
	steps := Steps(49)
	var outer []uint64
	for n := range steps {
		outer = append(outer, n)
		if inner := slices.Collect(steps); !slices.Equal(inner, []uint64{4, 6, 7}) {
			t.Error(n, inner)
		}
		Floor(most)
	}
	if !slices.Equal(outer, []uint64{4, 6, 7}) {
		t.Error(outer)
	}
}

func TestP2_3FloorIsRight(t *testing.T) {
	l := slices.Concat(edges(), mixed(20000))
	for _, n := range edges() {
		if n <= greatRoot {
			l = append(l, n*n-1, n*n, n*n+1) // of 0 these are the greatest number, 0 and 1
		}
	}
	for _, n := range l {
		if r := Floor(n); !isRoot(r, whole(n)) {
			t.Fatal(n, r)
		}
	}
}

func TestP2_3WideIsRight(t *testing.T) {
	l := edges()
	for _, hi := range l {
		for _, lo := range l {
			if r := Wide(hi, lo); !isRoot(r, joined(hi, lo)) {
				t.Fatal(hi, lo, r)
			}
		}
	}
	l = mixed(20000)
	for i := 0; i+1 < len(l); i += 2 {
		if r := Wide(l[i], l[i+1]); !isRoot(r, joined(l[i], l[i+1])) {
			t.Fatal(l[i], l[i+1], r)
		}
	}
}

func TestP2_3WideOfSquaresAndTheNumbersBesideThem(t *testing.T) {
	for _, r := range slices.Concat(edges(), mixed(5000)) {
		n := squared(whole(r))
		hi, lo := parted(n)
		if got := Wide(hi, lo); got != r {
			t.Fatal("of the square of", r, got)
		}
		if r == 0 {
			continue
		}
		hi, lo = parted(new(big.Int).Sub(n, big.NewInt(1)))
		if got := Wide(hi, lo); got != r-1 {
			t.Fatal("of 1 less than the square of", r, got)
		}
		hi, lo = parted(new(big.Int).Add(n, big.NewInt(1)))
		if got := Wide(hi, lo); got != r {
			t.Fatal("of 1 more than the square of", r, got)
		}
	}
}

func TestP2_3HypotIsRight(t *testing.T) {
	var l []int64
	for _, n := range slices.Concat(edges(), mixed(100)) {
		l = append(l, int64(n), -int64(n))
	}
	for _, x := range l {
		for _, y := range l {
			n := squared(big.NewInt(x))
			n.Add(n, squared(big.NewInt(y)))
			if r := Hypot(x, y); !isRoot(r, n) {
				t.Fatal(x, y, r)
			}
		}
	}
}
