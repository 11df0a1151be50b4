package trig

import (
	"pointillist/api"
	"pointillist/wide"
)

// The series' numbers have 60 places behind the point. Of 0 to 45 degrees no term and no sum of them is below 0, or above 2^60:
// whatever wide is asked for here fits, so what it says of that isn't looked at.
const (
	places   = 60
	one      = 1 << places
	halfTurn = 3622009729038561421 // the arc of 180 degrees of a circle of radius 1
	behind   = 9                   // terms behind the first one
)

// series tells the sine and the cosine of a rest of at most 45 degrees, with 60 places.
func series(rest int64) (sin, cos int64) {
	x, _ := wide.MulDiv(rest, halfTurn, 180*api.One)
	z, _ := wide.MulShift(x, x, places)
	return sum(x, z, 1), sum(one, z, 0)
}

// sum adds up the terms from the first one on, which is of that power of x; each is two powers above the one ahead.
func sum(first, z, power int64) int64 {
	total, term, sign := first, first, int64(1)
	for range behind {
		power += 2
		term = next(term, z, (power-1)*power)
		// The term itself never goes below 0: there its halves would go the other way.
		sign = -sign
		total += sign * term
	}
	return total
}

// next rounds twice, as the chapter tells it.
func next(term, z, divisor int64) int64 {
	term, _ = wide.MulShift(term, z, places)
	term, _ = wide.MulDiv(term, 1, divisor)
	return term
}

// brought takes a number from the series' places to Unit's.
func brought(n int64) int64 {
	n, _ = wide.MulShift(n, api.Unit, places)
	return n
}
