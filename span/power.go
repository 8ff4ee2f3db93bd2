package span

import (
	"math/bits"
	"slices"

	"monocle/api"
)

// rounding says to which of its neighbours a number is rounded.
type rounding bool

const (
	floor   rounding = false
	ceiling rounding = true
)

// digits is a natural number to the base One, the least significant digit first.
type digits []uint32

// multiply replaces d by its product with f, for which d has enough digits. f is less than 2^63, so no carry is greater than f.
func (d digits) multiply(f uint64) {
	var carry uint64
	for i, digit := range d {
		hi, lo := bits.Mul64(uint64(digit), f)
		lo, more := bits.Add64(lo, carry, 0)
		d[i] = uint32(lo)
		carry = (hi+more)<<32 | lo>>32
	}
}

// increment replaces d by d + 1, for which d has enough digits.
func (d digits) increment() {
	for i := range d {
		d[i]++
		if d[i] != 0 {
			return
		}
	}
}

// zero tells whether d is 0.
func (d digits) zero() bool {
	return !slices.ContainsFunc(d, func(digit uint32) bool { return digit != 0 })
}

// powerDigits returns m^n, for n from 1 on. It has the 2 digits of m in each of its n factors.
func powerDigits(m uint64, n int) digits {
	p := make(digits, 2*n)
	copy(p, digits{uint32(m), uint32(m >> 32)})
	for range n - 1 {
		p.multiply(m)
	}
	return p
}

// power returns the rounded n-th power of the number that v stands for, for n from 1 on.
// The powers of integers are kept exactly, since the errors of rounded factors would add up.
func power(v, n int, to rounding) (int, api.Errno) {
	negative := v < 0 && n%2 == 1
	if negative {
		to = !to // the floor of a negative number is the negative of the ceiling of its magnitude
	}
	p := powerDigits(uint64(max(v, -v)), n)
	parts, rest := p[n-1:], p[:n-1] // v^n counts parts of One^-n, and the result those of One^-1
	if to == ceiling && !rest.zero() {
		parts.increment()
	}
	m := uint64(parts[1])<<32 | uint64(parts[0])
	if m > api.MaxFix || !parts[2:].zero() {
		return 0, api.ErrBig
	}
	if negative {
		return -int(m), api.OK
	}
	return int(m), api.OK
}
