package fix

import (
	"math/bits"
)

// rounding says to which of its neighbours a number is rounded.
type rounding bool

const (
	floor   rounding = false
	ceiling rounding = true
)

// rootBits is the number of bits of the greatest root: that of MaxFix * One, which is 2^42.
const rootBits = 43

// wide is a natural number of 128 bits.
type wide struct{ hi, lo uint64 }

// product returns the exact product of a and b.
func product(a, b uint64) wide {
	hi, lo := bits.Mul64(a, b)
	return wide{hi, lo}
}

// exceeds tells whether w is greater than v.
func (w wide) exceeds(v wide) bool {
	return w.hi > v.hi || w.hi == v.hi && w.lo > v.lo
}

// next returns w + 1.
func (w wide) next() wide {
	lo, carry := bits.Add64(w.lo, 1, 0)
	return wide{w.hi + carry, lo}
}

// over returns the rounded quotient of w and d, which is not 0.
func (w wide) over(d uint64, to rounding) wide {
	lo, rest := bits.Div64(w.hi%d, w.lo, d)
	q := wide{w.hi / d, lo}
	if to == ceiling && rest > 0 {
		return q.next()
	}
	return q
}

// root returns the rounded square root of w, which is at most 2^84.
func (w wide) root(to rounding) uint64 {
	var r uint64
	for i := range rootBits {
		more := r | 1<<(rootBits-1-i)
		if !product(more, more).exceeds(w) {
			r = more
		}
	}
	if to == ceiling && product(r, r) != w {
		return r + 1
	}
	return r
}
