// Package wide is layer 1: see shared/doc/01-wide.md.
package wide

const maxShift = 62

// Add sums in 128 bits, since a sum that fits may go over on the way.
func Add(l ...int64) (int64, bool) {
	var sum number
	for _, n := range l {
		sum.add(widen(n))
	}
	return sum.narrow()
}

// MulDiv gives both the product and c the other sign, if c is below 0: the fraction stays the same, and so do its halves.
func MulDiv(a, b, c int64) (int64, bool) {
	if c == 0 {
		return 0, false
	}
	n := product(a, b)
	if c < 0 {
		n.negate()
	}
	n.divide(size(c))
	return n.narrow()
}

func MulShift(a, b int64, s int) (int64, bool) {
	return Dot(a, b, 0, 0, s)
}

// Dot needs no care for the one sum that goes over 128 bits, twice 2^126:
// it comes round to -2^127, which fits as little by whatever s it is divided.
func Dot(a, b, c, d int64, s int) (int64, bool) {
	if s < 0 || s > maxShift {
		return 0, false
	}
	n := product(a, b)
	n.add(product(c, d))
	n.divide(1 << s)
	return n.narrow()
}

// Within needs no case for bounds of 0 or less: no number lies between them.
// The least bound is its own -bound, but no number is less than it.
func Within(bound int64, l ...int64) bool {
	for _, n := range l {
		if n >= bound || n <= -bound {
			return false
		}
	}
	return true
}
