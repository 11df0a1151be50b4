package wide

import (
	"math"
	"math/big"
	"slices"
	"testing"
)

const (
	most  = math.MaxInt64
	least = math.MinInt64
)

// edges are numbers about which signs, halves and sizes change.
func edges() []int64 {
	l := []int64{0, 1, 2, 3, 5, 7, 10, 360, 65535, 65536, 65537, 3037000499, 3037000500, 3622009729038561421, most / 3, most - 2, most - 1, most}
	for _, s := range []int{29, 30, 31, 32, 33, 61, 62} {
		l = append(l, 1<<s-1, 1<<s, 1<<s+1)
	}
	for _, n := range slices.Clone(l) {
		l = append(l, -n)
	}
	l = append(l, least)
	slices.Sort(l)
	return slices.Compact(l)
}

// mixed are numbers of all sizes, made by a rule, the same ones each time.
func mixed(count int) []int64 {
	l := make([]int64, count)
	x := uint64(1)
	for i := range l {
		x = x*6364136223846793005 + 1442695040888963407
		y := x ^ x>>29
		l[i] = int64(y) >> (y >> 7 % 63)
	}
	return l
}

// nearest works out by big numbers what the document says: the greatest whole number that isn't above above/below and a half.
func nearest(above, below *big.Int) (int64, bool) {
	num := new(big.Int).Lsh(above, 1)
	num.Add(num, below)
	den := new(big.Int).Lsh(below, 1)
	if den.Sign() < 0 {
		num.Neg(num)
		den.Neg(den)
	}
	q := new(big.Int).Div(num, den) // Div is Euclid's: rounded down, of a divisor above 0
	if !q.IsInt64() {
		return 0, false
	}
	return q.Int64(), true
}

func bigDot(l ...int64) *big.Int {
	sum := new(big.Int)
	for i := 0; i+1 < len(l); i += 2 {
		sum.Add(sum, new(big.Int).Mul(big.NewInt(l[i]), big.NewInt(l[i+1])))
	}
	return sum
}

func power(s int) *big.Int { return new(big.Int).Lsh(big.NewInt(1), uint(s)) }

func TestP1_1Add(t *testing.T) {
	for _, c := range []struct {
		l  []int64
		n  int64
		ok bool
	}{
		{nil, 0, true},
		{[]int64{}, 0, true},
		{[]int64{7}, 7, true},
		{[]int64{most}, most, true},
		{[]int64{least}, least, true},
		{[]int64{1, 2, -4}, -1, true},
		{[]int64{most, 1}, 0, false},
		{[]int64{least, -1}, 0, false},
		{[]int64{least, least}, 0, false},
		{[]int64{most, most}, 0, false},
		{[]int64{most, least}, -1, true},
		{[]int64{most, 1, -1}, most, true},
		{[]int64{least, -1, 1}, least, true},
		{[]int64{most, most, least, least, 5}, 3, true},
		{[]int64{least, least, most, most, 2}, 0, true},
		{[]int64{least, least, least, least}, 0, false},
		{[]int64{most, most, most, least, least}, most - 2, true},
	} {
		if n, ok := Add(c.l...); n != c.n || ok != c.ok {
			t.Error(c, n, ok)
		}
	}
}

func TestP1_1AddOfMany(t *testing.T) {
	var up, down []int64
	for range 1000 {
		up = append(up, most)
		down = append(down, least)
	}
	if n, ok := Add(up...); n != 0 || ok {
		t.Error(n, ok)
	}
	if n, ok := Add(down...); n != 0 || ok {
		t.Error(n, ok)
	}
	if n, ok := Add(append(up, down...)...); n != -1000 || !ok {
		t.Error(n, ok)
	}
}

func TestP1_1AddHoldsWithBigNumbers(t *testing.T) {
	l := edges()
	for _, a := range l {
		for _, b := range l {
			for _, c := range []int64{0, 1, -1, most, least} {
				want := new(big.Int).Add(big.NewInt(a), big.NewInt(b))
				want.Add(want, big.NewInt(c))
				m, fits := nearest(want, big.NewInt(1))
				if n, ok := Add(a, b, c); n != m || ok != fits {
					t.Fatal(a, b, c, n, ok, "want", m, fits)
				}
			}
		}
	}
}

func TestP1_1MulDiv(t *testing.T) {
	for _, c := range []struct {
		a, b, c, n int64
		ok         bool
	}{
		{7, 3, 2, 11, true}, // the chapter's examples
		{-7, 3, 2, -10, true},
		{1, 1, 2, 1, true}, // halves go up, either way
		{-1, 1, 2, 0, true},
		{1, -1, 2, 0, true},
		{1, 1, -2, 0, true},
		{-1, 1, -2, 1, true},
		{3, 1, 2, 2, true},
		{-3, 1, 2, -1, true},
		{1, 1, 3, 0, true}, // no halves
		{2, 1, 3, 1, true},
		{-1, 1, 3, 0, true},
		{-2, 1, 3, -1, true},
		{0, 5, -7, 0, true},
		{0, 0, 0, 0, false}, // a divisor of 0
		{1, 1, 0, 0, false},
		{least, least, 0, 0, false},
		{least, 1, 1, least, true}, // the least and the greatest number
		{most, 1, 1, most, true},
		{most, -1, 1, -most, true},
		{least, 1, -1, 0, false},
		{least, -1, 1, 0, false},
		{least, -1, -1, least, true},
		{least, least, least, least, true},
		{most, most, most, most, true},
		{least, most, least, most, true},
		{least, most, most, least, true},
		{least, least, most, 0, false},
		{least, least, 1, 0, false},
		{most, most, 1, 0, false},
		{1, 1, least, 0, true},
		{1 << 62, 1, least, 0, true}, // -1/2
		{-1 << 62, 1, least, 1, true},
		{least, 1, least, 1, true},
		{most, 3, 2, 0, false},
		{1 << 62, 2, 1, 0, false},
		{-1 << 62, 2, 1, least, true},
	} {
		if n, ok := MulDiv(c.a, c.b, c.c); n != c.n || ok != c.ok {
			t.Error(c, n, ok)
		}
	}
}

// What fits, or not, only by its rounding: quotients a half away from both ends, and from 2^64.
func TestP1_1RoundsAtTheEnds(t *testing.T) {
	for _, c := range []struct {
		a, b, c, n int64
		ok         bool
	}{
		{most, 2, 2, most, true},
		// (2^64 - 1) / 2 is a half above the greatest one, and goes up
		{4294967297, 4294967295, 2, 0, false},
		// -(2^64 + 1) / 2 is a half below the least one, and goes up to it
		{-274177, 67280421310721, 2, least, true},
		// -(2^64 + 2) / 2 is 1 below it
		{-6, 3074457345618258603, 2, 0, false},
		// (2^66 - 1) / 4 rounds to 2^64
		{8589934591, 8589934593, 4, 0, false},
		{-8589934591, 8589934593, 4, 0, false},
		{8589934591, -8589934593, -4, 0, false},
	} {
		if n, ok := MulDiv(c.a, c.b, c.c); n != c.n || ok != c.ok {
			t.Error(c, n, ok)
		}
		m, fits := nearest(bigDot(c.a, c.b), big.NewInt(c.c))
		if m != c.n || fits != c.ok {
			t.Error("the table itself is wrong", c, m, fits)
		}
	}
	// (2^63 - 1) 2^s and 2^(s - 1) less 1 fit, by 2^s; one more doesn't. Likewise below.
	for s := 1; s <= 62; s++ {
		half := int64(1) << (s - 1)
		if n, ok := Dot(most, 1<<s, half-1, 1, s); n != most || !ok {
			t.Error(s, n, ok)
		}
		if n, ok := Dot(most, 1<<s, half, 1, s); n != 0 || ok {
			t.Error(s, n, ok)
		}
		if n, ok := Dot(least, 1<<s, -half, 1, s); n != least || !ok {
			t.Error(s, n, ok)
		}
		if n, ok := Dot(least, 1<<s, -half-1, 1, s); n != 0 || ok {
			t.Error(s, n, ok)
		}
	}
}

func TestP1_1MulDivHoldsWithBigNumbers(t *testing.T) {
	l := edges()
	for _, a := range l {
		for _, b := range l {
			above := bigDot(a, b)
			for _, c := range l {
				var m int64
				var fits bool
				if c != 0 {
					m, fits = nearest(above, big.NewInt(c))
				}
				if n, ok := MulDiv(a, b, c); n != m || ok != fits {
					t.Fatal(a, b, c, n, ok, "want", m, fits)
				}
			}
		}
	}
}

func TestP1_1MulDivOfSmallNumbers(t *testing.T) {
	for a := int64(-30); a <= 30; a++ {
		for c := int64(-12); c <= 12; c++ {
			if c == 0 {
				continue
			}
			m, _ := nearest(big.NewInt(a), big.NewInt(c))
			if n, ok := MulDiv(a, 1, c); n != m || !ok {
				t.Error(a, c, n, ok, "want", m)
			}
		}
	}
}

func TestP1_1MulShift(t *testing.T) {
	for _, c := range []struct {
		a, b int64
		s    int
		n    int64
		ok   bool
	}{
		{5, 1, 1, 3, true}, // the chapter's examples
		{-5, 1, 1, -2, true},
		{5, -1, 1, -2, true},
		{5, 1, 2, 1, true},
		{-5, 1, 2, -1, true},
		{6, 1, 2, 2, true},
		{-6, 1, 2, -1, true},
		{1, 1, 62, 0, true},
		{1 << 61, 1, 62, 1, true},
		{-1 << 61, 1, 62, 0, true},
		{-1<<61 - 1, 1, 62, -1, true},
		{6, 7, 0, 42, true},
		{-6, 7, 0, -42, true},
		{most, 1, 0, most, true},
		{least, 1, 0, least, true},
		{least, -1, 0, 0, false},
		{most, 2, 0, 0, false},
		{most, 2, 1, most, true},
		{least, 2, 1, least, true},
		{1 << 62, 1 << 62, 62, 1 << 62, true},
		{least, -1 << 62, 62, 0, false},
		{least, 1 << 62, 62, least, true},
		{least, least, 62, 0, false},
		{most, most, 62, 0, false},
		{1, 1, 63, 0, false}, // no such shifts
		{0, 0, 63, 0, false},
		{0, 0, 64, 0, false},
		{1, 1, -1, 0, false},
		{1, 1, 128, 0, false},
		{1, 1, math.MaxInt, 0, false},
		{1, 1, math.MinInt, 0, false},
	} {
		if n, ok := MulShift(c.a, c.b, c.s); n != c.n || ok != c.ok {
			t.Error(c, n, ok)
		}
	}
}

func TestP1_1MulShiftHoldsWithBigNumbers(t *testing.T) {
	l := edges()
	for _, a := range l {
		for _, b := range l {
			above := bigDot(a, b)
			for s := -2; s <= 66; s++ {
				var m int64
				var fits bool
				if s >= 0 && s <= 62 {
					m, fits = nearest(above, power(s))
				}
				if n, ok := MulShift(a, b, s); n != m || ok != fits {
					t.Fatal(a, b, s, n, ok, "want", m, fits)
				}
			}
		}
	}
}

func TestP1_1Dot(t *testing.T) {
	for _, c := range []struct {
		a, b, c, d int64
		s          int
		n          int64
		ok         bool
	}{
		{3, 5, 1, 1, 1, 8, true},
		{1, 1, 1, 1, 1, 1, true}, // rounded once: two halves are 1, not 2
		{1, 1, 1, 1, 2, 1, true},
		{1, 1, 1, 1, 3, 0, true},
		{-1, 1, -1, 1, 1, -1, true}, // and two below 0 are -1, not 0
		{-3, 5, 0, 0, 1, -7, true},
		{0, 0, -3, 5, 1, -7, true},
		{most, most, -most, most, 0, 0, true}, // products that don't fit, and a sum that does
		{most, most, -most, most, 62, 0, true},
		{least, least, least, most, 0, 0, false},
		{least, least, least, most, 1, 1 << 62, true},
		{least, -1, -1, 1, 0, most, true},
		{least, -1, 0, 0, 0, 0, false},
		{least, 1, -1, 1, 0, 0, false},
		{1 << 40, 1 << 40, 0, 0, 18, 1 << 62, true},
		{1 << 40, 1 << 40, 0, 0, 17, 0, false},
		{1, 1, 0, 0, 63, 0, false},
		{1, 1, 0, 0, -1, 0, false},
		{0, 0, 0, 0, math.MaxInt, 0, false},
		{0, 0, 0, 0, math.MinInt, 0, false},
		{0, 0, 0, 0, 62, 0, true},
	} {
		if n, ok := Dot(c.a, c.b, c.c, c.d, c.s); n != c.n || ok != c.ok {
			t.Error(c, n, ok)
		}
	}
	for s := -1; s <= 63; s++ { // the one sum that 128 bits don't hold
		if n, ok := Dot(least, least, least, least, s); n != 0 || ok {
			t.Error(s, n, ok)
		}
	}
}

func TestP1_1DotHoldsWithBigNumbers(t *testing.T) {
	few := []int64{least, least + 1, -1 << 62, -1 << 31, -3, -1, 0, 1, 2, 65535, 1 << 31, 1 << 62, most - 1, most}
	for _, a := range few {
		for _, b := range few {
			for _, c := range few {
				for _, d := range few {
					above := bigDot(a, b, c, d)
					for _, s := range []int{0, 1, 2, 16, 30, 31, 61, 62} {
						m, fits := nearest(above, power(s))
						if n, ok := Dot(a, b, c, d, s); n != m || ok != fits {
							t.Fatal(a, b, c, d, s, n, ok, "want", m, fits)
						}
					}
				}
			}
		}
	}
}

func TestP1_1OfMixedNumbers(t *testing.T) {
	l := mixed(40000)
	for i := 0; i+3 < len(l); i += 4 {
		a, b, c, d, s := l[i], l[i+1], l[i+2], l[i+3], i/4%63
		m, fits := nearest(bigDot(a, b, c, d), power(s))
		if n, ok := Dot(a, b, c, d, s); n != m || ok != fits {
			t.Fatal(a, b, c, d, s, n, ok, "want", m, fits)
		}
		m, fits = nearest(bigDot(a, b), power(s))
		if n, ok := MulShift(a, b, s); n != m || ok != fits {
			t.Fatal(a, b, s, n, ok, "want", m, fits)
		}
		if c == 0 {
			continue
		}
		m, fits = nearest(bigDot(a, b), big.NewInt(c))
		if n, ok := MulDiv(a, b, c); n != m || ok != fits {
			t.Fatal(a, b, c, n, ok, "want", m, fits)
		}
	}
}

func TestP1_2Within(t *testing.T) {
	for _, c := range []struct {
		bound int64
		l     []int64
		ok    bool
	}{
		{5, []int64{4, -4, 0}, true},
		{5, []int64{5}, false},
		{5, []int64{-5}, false},
		{5, []int64{0, 1, 6}, false}, // the last one counts, too
		{5, []int64{6, 1, 0}, false},
		{5, []int64{0, -6, 1}, false},
		{5, []int64{most}, false},
		{5, []int64{least}, false},
		{1, []int64{0}, true},
		{1, []int64{1}, false},
		{1, []int64{-1}, false},
		{1 << 32, []int64{1<<32 - 1, 1 - 1<<32}, true},
		{1 << 32, []int64{1 << 32}, false},
		{most, []int64{most - 1, 1 - most, 0}, true},
		{most, []int64{most}, false},
		{most, []int64{-most}, false},
		{most, []int64{least}, false},
		{0, []int64{0}, false}, // a bound of 0 or less
		{0, []int64{1, -1}, false},
		{-1, []int64{0}, false},
		{-3, []int64{0, 2, -2}, false},
		{-3, []int64{-4}, false},
		{-3, []int64{4}, false},
		{-most, []int64{0}, false},
		{-most, []int64{least}, false},
		{least, []int64{0}, false},
		{least, []int64{least}, false},
		{least, []int64{most}, false},
		{5, nil, true}, // empty lists
		{5, []int64{}, true},
		{0, nil, true},
		{-3, nil, true},
		{least, nil, true},
	} {
		if ok := Within(c.bound, c.l...); ok != c.ok {
			t.Error(c, ok)
		}
	}
}

func TestP1_2WithinHoldsWithBigNumbers(t *testing.T) {
	l := edges()
	for _, bound := range l {
		for _, n := range l {
			want := bound > 0 && new(big.Int).Abs(big.NewInt(n)).Cmp(big.NewInt(bound)) < 0
			if ok := Within(bound, n); ok != want {
				t.Fatal(bound, n, ok)
			}
			if ok := Within(bound, 0, n, 0); ok != want {
				t.Fatal(bound, n, ok)
			}
		}
	}
}

// R4: a list that is handed in isn't changed, its spare room included.
func TestListsStayAsTheyAre(t *testing.T) {
	room := []int64{most, 3, least, 4, 9, 9}
	was := slices.Clone(room)
	l := room[:4]
	if n, ok := Add(l...); n != 6 || !ok {
		t.Error(n, ok)
	}
	if !Within(5, l[1:2]...) || Within(5, l...) {
		t.Error("within")
	}
	if !slices.Equal(room, was) {
		t.Error(room)
	}
}
