package trig

import (
	"math"
	"math/big"
	"slices"
	"testing"

	"pointillist/api"
)

const (
	most    = math.MaxInt64
	least   = math.MinInt64
	degree  = api.One
	unit    = api.Unit
	quarter = 90 * degree
	turn    = 360 * degree
)

// edges are whole and half quarters, some of them many turns away, the ends of int64, 0, and the numbers beside them.
func edges() []int64 {
	l := []int64{least, least + 1, least + 2, most - 2, most - 1, most}
	for _, base := range []int64{0, turn, -turn, 1000 * turn, -1000 * turn, most / turn * turn, least / turn * turn} {
		for half := int64(-8); half <= 8; half++ {
			d := big.NewInt(base)
			d.Add(d, big.NewInt(half*quarter/2))
			for beside := int64(-2); beside <= 2; beside++ {
				if n := new(big.Int).Add(d, big.NewInt(beside)); n.IsInt64() {
					l = append(l, n.Int64())
				}
			}
		}
	}
	slices.Sort(l)
	return slices.Compact(l)
}

// mixed are numbers of all sizes, made by a rule, the same ones each time.
func mixed(count int) []int64 {
	l := make([]int64, count)
	x := uint64(1)
	for i := range l {
		x = x*6364136223846793005 + 1442695040888963407
		y := x ^ x>>29
		l[i] = int64(y) >> (y >> 7 % 63)
	}
	return l
}

// spread are degrees of some two turns, either way, so far apart that all kinds of rests come.
func spread(step int64) []int64 {
	var l []int64
	for d := int64(-2 * turn); d <= 2*turn; d += step {
		l = append(l, d)
	}
	return l
}

func all() []int64 { return slices.Concat(edges(), mixed(5000), spread(10007)) }

// nearest is layer 1's: the greatest whole number that isn't above above/below and a half; below is above 0.
func nearest(above, below *big.Int) *big.Int {
	n := new(big.Int).Lsh(above, 1)
	n.Add(n, below)
	return n.Div(n, new(big.Int).Lsh(below, 1))
}

func times(a, b *big.Int) *big.Int { return new(big.Int).Mul(a, b) }

func power(s uint) *big.Int { return new(big.Int).Lsh(big.NewInt(1), s) }

// bigSeries works out by big numbers what the chapter says of a rest of at most 45 degrees.
func bigSeries(r int64) (sin, cos *big.Int) {
	arc := times(big.NewInt(r), big.NewInt(3622009729038561421))
	x := nearest(arc, big.NewInt(180<<16))
	z := nearest(times(x, x), power(60))
	sin = bigSum(x, z, func(k int64) int64 { return 2 * k * (2*k + 1) })
	cos = bigSum(power(60), z, func(k int64) int64 { return (2*k - 1) * 2 * k })
	return sin, cos
}

func bigSum(first, z *big.Int, divisor func(k int64) int64) *big.Int {
	terms := []*big.Int{first}
	for k := int64(1); k <= 9; k++ {
		ahead := nearest(times(terms[k-1], z), power(60))
		terms = append(terms, nearest(ahead, big.NewInt(divisor(k))))
	}
	total := new(big.Int)
	for k, term := range terms {
		if k%2 == 0 {
			total.Add(total, term)
		} else {
			total.Sub(total, term)
		}
	}
	return total
}

func bigRest(r int64) (sin, cos int64) {
	if r <= 45<<16 {
		s, c := bigSeries(r)
		return nearest(s, power(30)).Int64(), nearest(c, power(30)).Int64()
	}
	s, c := bigSeries(90<<16 - r)
	return nearest(c, power(30)).Int64(), nearest(s, power(30)).Int64()
}

func bigQuarter(d int64) (quarter int, rest int64) {
	t := new(big.Int).Mod(big.NewInt(d), big.NewInt(360<<16)) // Mod is Euclid's: from 0 on
	q, r := new(big.Int).DivMod(t, big.NewInt(90<<16), new(big.Int))
	return int(q.Int64()), r.Int64()
}

func bigBoth(d int64) (sin, cos int64) {
	q, r := bigQuarter(d)
	s, c := bigRest(r)
	return []int64{s, c, -s, -c}[q], []int64{c, -s, -c, s}[q]
}

func TestP3_1Examples(t *testing.T) {
	if n := Sin(30 * degree); n != 1<<29 {
		t.Error(n)
	}
	if n := Cos(60 * degree); n != 1<<29 {
		t.Error(n)
	}
	if n := Sin(-90 * degree); n != -1<<30 {
		t.Error(n)
	}
}

func TestP3_1Both(t *testing.T) {
	for _, c := range []struct{ d, sin, cos int64 }{
		{0, 0, unit},
		{1, 286, unit}, // the least degrees: 2^30 pi / (180 2^16) is 285.95
		{-1, -286, unit},
		{turn - 1, -286, unit},
		{turn + 1, 286, unit},
		{quarter - 1, unit, 286},
		{quarter + 1, unit, -286},
		{2*quarter - 1, 286, -unit},
		{2*quarter + 1, -286, -unit},
		{3*quarter - 1, -unit, -286},
		{3*quarter + 1, -unit, 286},
		{1 * degree, 18739379, 1073578288},
		{30 * degree, unit / 2, 929887697},
		{60 * degree, 929887697, unit / 2},
		{120 * degree, 929887697, -unit / 2},
		{150 * degree, unit / 2, -929887697},
		{210 * degree, -unit / 2, -929887697},
		{240 * degree, -929887697, -unit / 2},
		{300 * degree, -929887697, unit / 2},
		{330 * degree, -unit / 2, 929887697},
		{-30 * degree, -unit / 2, 929887697},
		{-150 * degree, -unit / 2, -929887697},
		{-330 * degree, unit / 2, 929887697},
		{45*degree - 1, 759249923, 759250327},
		{45 * degree, 759250125, 759250125},
		{45*degree + 1, 759250327, 759249923},
		{135 * degree, 759250125, -759250125},
		{225 * degree, -759250125, -759250125},
		{315 * degree, -759250125, 759250125},
		{-45 * degree, -759250125, 759250125},
	} {
		if sin, cos := Both(c.d); sin != c.sin || cos != c.cos {
			t.Error(c, sin, cos)
		}
		if sin, cos := bigBoth(c.d); sin != c.sin || cos != c.cos {
			t.Error("the table itself is wrong", c, sin, cos)
		}
	}
}

func TestP3_1BothHoldsWithBigNumbers(t *testing.T) {
	for _, d := range all() {
		wantSin, wantCos := bigBoth(d)
		if sin, cos := Both(d); sin != wantSin || cos != wantCos {
			t.Fatal(d, sin, cos, "want", wantSin, wantCos)
		}
	}
}

func TestP3_1SinAndCosAreWhatBothTells(t *testing.T) {
	for _, d := range all() {
		sin, cos := Both(d)
		if s, c := Sin(d), Cos(d); s != sin || c != cos {
			t.Fatal(d, s, c, "want", sin, cos)
		}
	}
}

// The roundings at 60 places hardly ever come through to 30, so the sums are held against the chapter themselves.
func TestP3_1SeriesHoldsWithBigNumbers(t *testing.T) {
	rests := []int64{0, 1, 2, 3, 45*degree - 1, 45 * degree}
	for r := int64(0); r <= 45*degree; r += 997 {
		rests = append(rests, r)
	}
	for _, r := range rests {
		wantSin, wantCos := bigSeries(r)
		if sin, cos := series(r); sin != wantSin.Int64() || cos != wantCos.Int64() {
			t.Fatal(r, sin, cos, "want", wantSin, wantCos)
		}
	}
}

// That the words are of sines at all: floats tell them to some 2^-20 of what is rounded here.
func TestP3_1BothLiesByTheFloats(t *testing.T) {
	for _, d := range spread(4999) {
		angle := float64(d) / degree * math.Pi / 180
		sin, cos := Both(d)
		if math.Abs(float64(sin)-math.Sin(angle)*unit) > 0.51 || math.Abs(float64(cos)-math.Cos(angle)*unit) > 0.51 {
			t.Fatal(d, sin, cos)
		}
	}
}

func TestP3_1Quarter(t *testing.T) {
	for _, c := range []struct {
		d int64
		q int
		r int64
	}{
		{0, 0, 0},
		{1, 0, 1},
		{45 * degree, 0, 45 * degree},
		{quarter - 1, 0, quarter - 1},
		{quarter, 1, 0},
		{quarter + 1, 1, 1},
		{91 * degree, 1, degree},
		{2*quarter - 1, 1, quarter - 1},
		{2 * quarter, 2, 0},
		{3*quarter - 1, 2, quarter - 1},
		{3 * quarter, 3, 0},
		{359 * degree, 3, 89 * degree},
		{turn - 1, 3, quarter - 1},
		{turn, 0, 0},
		{turn + 1, 0, 1},
		{-1, 3, quarter - 1},
		{-quarter, 3, 0},
		{-quarter - 1, 2, quarter - 1},
		{-2 * quarter, 2, 0},
		{-3 * quarter, 1, 0},
		{-turn + 1, 0, 1},
		{-turn, 0, 0},
		{-turn - 1, 3, quarter - 1},
		{most, 2, 68*degree - 1}, // 2^63 is 248 degrees more than whole turns
		{least, 1, 22 * degree},  // and so -2^63 is 112
	} {
		if q, r := bigQuarter(c.d); q != c.q || r != c.r {
			t.Error("the table itself is wrong", c, q, r)
		}
		if q, r := Quarter(c.d); q != c.q || r != c.r {
			t.Error(c, q, r)
		}
	}
}

func TestP3_1QuarterHoldsWithBigNumbers(t *testing.T) {
	for _, d := range all() {
		wantQuarter, wantRest := bigQuarter(d)
		if q, r := Quarter(d); q != wantQuarter || r != wantRest {
			t.Fatal(d, q, r, "want", wantQuarter, wantRest)
		}
	}
}

func TestP3_2BothLieWithinTheUnit(t *testing.T) {
	for _, d := range all() {
		if sin, cos := Both(d); sin < -unit || sin > unit || cos < -unit || cos > unit {
			t.Fatal(d, sin, cos)
		}
	}
}

func TestP3_2WholeQuarters(t *testing.T) {
	sines := []int64{0, unit, 0, -unit}
	cosines := []int64{unit, 0, -unit, 0}
	for n := int64(-4000); n <= 4000; n++ {
		i := (n%4 + 4) % 4
		if sin, cos := Both(n * quarter); sin != sines[i] || cos != cosines[i] {
			t.Fatal(n, sin, cos)
		}
	}
	for _, n := range []int64{most / quarter, least / quarter} { // the outermost ones
		i := (n%4 + 4) % 4
		if sin, cos := Both(n * quarter); sin != sines[i] || cos != cosines[i] {
			t.Error(n, sin, cos)
		}
	}
}

func TestP3_2SquaresMakeOne(t *testing.T) {
	for _, d := range all() {
		sin, cos := Both(d)
		if off := sin*sin + cos*cos - 1<<60; off < -1<<32 || off > 1<<32 {
			t.Fatal(d, sin, cos, off)
		}
	}
}

func TestP3_2HalfATurnChangesTheSigns(t *testing.T) {
	for _, d := range all() {
		if d > most-turn/2 {
			continue
		}
		sin, cos := Both(d)
		if s, c := Both(d + turn/2); s != -sin || c != -cos {
			t.Fatal(d, sin, cos, s, c)
		}
	}
}
