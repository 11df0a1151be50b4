package vec

import (
	"testing"

	"pointillist/api"
	"pointillist/root"
)

// ofQuarter is the Handle of a quarter: 1 less than P9.4's number, since its sine and cosine are rounded down.
const ofQuarter = 593011234

func checkHalf(t *testing.T, a, b api.Point, sin, cos, handle int64) {
	t.Helper()
	if !wordsRight(a) || !wordsRight(b) {
		t.Fatal("no directions that are right", a, b)
	}
	if s, c := Half(a, b); s != sin || c != cos {
		t.Error(a, b, "Half", s, c, "want", sin, cos)
	}
	if h := Handle(a, b); h != handle {
		t.Error(a, b, "Handle", h, "want", handle)
	}
}

// The Dot of 2^30, 0 and a direction is that one's first number.
func TestP9_3HalfAndHandle(t *testing.T) {
	for _, c := range []struct{ n, sin, cos, handle int64 }{
		{unit, 0, unit, 0},
		{unit - 1, 23170, unit - 1, 15447},
		{unit - 2, 32768, unit - 1, 21845},
		{unit - 4, 46340, unit - 2, 30893},
		{858993459, 339546978, 1018640934, 232325748},
		{644245094, 480191941, 960383883, 337968081},
		{unit / 2, unit / 2, 929887696, 383611006}, // 60 degrees
		{1, 759250124, 759250125, 593011234},
		{0, 759250124, 759250124, ofQuarter},
		{-1, 759250125, 759250124, 593011235},
		{-unit / 2, 929887696, unit / 2, 826566841},
		{-858993459, 1018640934, 339546978, 1031879092},
		{1 - unit, unit - 1, 23170, 1431624871},
		{-unit, unit, 0, 1431655765}, // 4 thirds
	} {
		side := beside(c.n, unit)
		for _, y := range []int64{side, -side} { // which way round it goes makes no difference
			checkHalf(t, p(unit, 0), p(c.n, y), c.sin, c.cos, c.handle)
			checkHalf(t, p(c.n, y), p(unit, 0), c.sin, c.cos, c.handle)
			checkHalf(t, p(0, unit), p(y, c.n), c.sin, c.cos, c.handle)
			checkHalf(t, p(-unit, 0), p(-c.n, y), c.sin, c.cos, c.handle)
		}
	}
}

// Of directions that are longer than 1 the Dot may be more than 2^30, or less than -2^30: then it is brought there.
func TestP9_3HalfOfADotThatIsBrought(t *testing.T) {
	const long = unit + 64
	for _, other := range []int64{unit + 1, unit + 63, long} {
		for _, d := range []api.Point{p(1, 0), p(0, 1), p(-1, 0), p(0, -1)} {
			a, b := p(d.X*long, d.Y*long), p(d.X*other, d.Y*other)
			if n := Dot(a, b); n <= unit {
				t.Fatal("no such Dot", a, b, n)
			}
			checkHalf(t, a, b, 0, unit, 0)
			checkHalf(t, b, a, 0, unit, 0)
			checkHalf(t, a, p(-b.X, -b.Y), unit, 0, 1431655765)
			checkHalf(t, p(-b.X, -b.Y), a, unit, 0, 1431655765)
		}
	}
	// One that is shorter stays what it is.
	checkHalf(t, p(unit-64, 0), p(unit, 0), 185363, unit-17, 123575)
	checkHalf(t, p(unit-64, 0), p(-unit, 0), unit-17, 185363, 1431408635)
}

// Of one direction and itself the Dot lies near 2^30, above or below it; of one and its opposite likewise.
func TestP9_3HalfOfItselfAndTheOpposite(t *testing.T) {
	var mix mixer
	above, below := 0, 0
	for range 20000 {
		d := mix.direction()
		opposite := p(-d.X, -d.Y)
		for _, b := range []api.Point{d, opposite} {
			sin, cos := wordsHalf(d, b)
			checkHalf(t, d, b, sin, cos, wordsHandle(d, b))
		}
		if n := wordsDot(d, d); n > unit {
			above++
			checkHalf(t, d, d, 0, unit, 0)
		}
		if n := wordsDot(d, opposite); n < -unit {
			below++
			checkHalf(t, d, opposite, unit, 0, 1431655765)
		}
		if t.Failed() {
			return
		}
	}
	if above < 1000 || below < 1000 {
		t.Error("too few are brought", above, below)
	}
}

func TestP9_3HoldsWithBigNumbers(t *testing.T) {
	var mix mixer
	for range 50000 {
		a, b := mix.direction(), mix.direction()
		sin, cos := wordsHalf(a, b)
		checkHalf(t, a, b, sin, cos, wordsHandle(a, b))
		if t.Failed() {
			return
		}
	}
}

func TestP9_4ADirectionsHypotIsOneButForTwo(t *testing.T) {
	var mix mixer
	for k := range int64(50000) {
		x, y := mix.number(), mix.number()
		if k < 10000 { // many small ones, in all directions
			x, y = k%100-50, k/100-50
		}
		d, ok := Of(x, y)
		if ok != (x != 0 || y != 0) {
			t.Fatal(x, y, ok)
		}
		if !ok {
			continue
		}
		if h := root.Hypot(d.X, d.Y); h < unit-2 || h > unit+2 || !Right(d) {
			t.Fatal(x, y, d, h)
		}
	}
}

func TestP9_4TheHandleOfAQuarter(t *testing.T) {
	const want, off = 593011235, 4
	var mix mixer
	for range 20000 {
		x, y := mix.number(), mix.number()
		a, ok := Of(x, y)
		b, _ := Of(-y, x)
		if !ok {
			continue
		}
		for _, q := range []api.Point{b, Turn(a, 1), Turn(a, -1)} {
			if h := Handle(a, q); h < want-off || h > want+off {
				t.Fatal(x, y, a, q, h)
			}
		}
		if h := Handle(a, Turn(a, 1)); h != ofQuarter { // their Dot is just 0
			t.Fatal(a, h)
		}
	}
}
