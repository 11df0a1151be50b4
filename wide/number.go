package wide

import "math/bits"

// number is a whole number of 128 bits, in two's complement: every product of two int64 is one.
type number struct{ high, low uint64 }

func widen(n int64) number {
	return number{high: uint64(n >> 63), low: uint64(n)}
}

// size is n without its sign, unsigned, since that of the least number is no int64.
func size(n int64) uint64 {
	if n < 0 {
		return -uint64(n)
	}
	return uint64(n)
}

func product(a, b int64) number {
	var n number
	n.high, n.low = bits.Mul64(size(a), size(b))
	if (a < 0) != (b < 0) {
		n.negate()
	}
	return n
}

func (n *number) add(m number) {
	var carry uint64
	n.low, carry = bits.Add64(n.low, m.low, 0)
	n.high, _ = bits.Add64(n.high, m.high, carry)
}

func (n *number) invert() {
	n.high, n.low = ^n.high, ^n.low
}

func (n *number) negate() {
	n.invert()
	n.add(number{low: 1})
}

// divide makes n the nearest whole number to n / d; d isn't 0.
func (n *number) divide(d uint64) {
	// With half of d on top, rounding down gives the nearest one, and of two the greater one.
	// Of an odd d no number lies in the middle, so what its half lacks makes no difference.
	n.add(number{low: d / 2})
	below := int64(n.high) < 0
	// Rounded down, n / d is -1 less the quotient of -1 less n: to invert is to take from -1.
	if below {
		n.invert()
	}
	var rest uint64
	n.high, rest = bits.Div64(0, n.high, d)
	n.low, _ = bits.Div64(rest, n.low, d)
	if below {
		n.invert()
	}
}

// narrow tells n, if it fits: then its low half says all of it.
func (n number) narrow() (int64, bool) {
	v := int64(n.low)
	if n != widen(v) {
		return 0, false
	}
	return v, true
}
