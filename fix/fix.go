// Package fix is layer 1: fixed-point numbers, whose results are rounded down or up. See 01-fix.md.
package fix

import (
	"monocle/api"
)

// maxFactor limits the numerator and the denominator by which numbers are scaled.
const maxFactor = 1 << 62

// tens are the powers of ten, from 10^0 on.
var tens = [...]int{
	1,
	10,
	100,
	1000,
	10000,
	100000,
	1000000,
	10000000,
	100000000,
	1000000000,
	10000000000,
	100000000000,
	1000000000000,
}

// Check returns ErrArg if a is no fixed-point number.
func Check(a int) api.Errno {
	if a < -api.MaxFix || a > api.MaxFix {
		return api.ErrArg
	}
	return api.OK
}

// Add returns the sum, which is exact.
func Add(a, b int) (int, api.Errno) {
	if e := checkBoth(a, b); e != api.OK {
		return 0, e
	}
	return limited(a + b)
}

// Sub returns the difference, which is exact.
func Sub(a, b int) (int, api.Errno) {
	if e := checkBoth(a, b); e != api.OK {
		return 0, e
	}
	return limited(a - b)
}

// Neg returns the negative, which is exact.
func Neg(a int) (int, api.Errno) {
	if e := Check(a); e != api.OK {
		return 0, e
	}
	return -a, api.OK
}

// MulDown returns the product, rounded down.
func MulDown(a, b int) (int, api.Errno) {
	return mul(a, b, floor)
}

// MulUp returns the product, rounded up.
func MulUp(a, b int) (int, api.Errno) {
	return mul(a, b, ceiling)
}

// DivDown returns the quotient, rounded down.
func DivDown(a, b int) (int, api.Errno) {
	return div(a, b, floor)
}

// DivUp returns the quotient, rounded up.
func DivUp(a, b int) (int, api.Errno) {
	return div(a, b, ceiling)
}

// SqrtDown returns the square root, rounded down.
func SqrtDown(a int) (int, api.Errno) {
	return sqrt(a, floor)
}

// SqrtUp returns the square root, rounded up.
func SqrtUp(a int) (int, api.Errno) {
	return sqrt(a, ceiling)
}

// ScaleDown returns a times n / d, rounded down.
func ScaleDown(a, n, d int) (int, api.Errno) {
	return scale(a, n, d, floor)
}

// ScaleUp returns a times n / d, rounded up.
func ScaleUp(a, n, d int) (int, api.Errno) {
	return scale(a, n, d, ceiling)
}

// FromDec returns n / 10^digits, rounded down and up.
func FromDec(n, digits int) (down, up int, e api.Errno) {
	if digits < 0 || digits >= len(tens) {
		return 0, 0, api.ErrArg
	}
	if down, e = ratio(n, api.One, tens[digits], floor); e != api.OK {
		return 0, 0, e
	}
	if up, e = ratio(n, api.One, tens[digits], ceiling); e != api.OK {
		return 0, 0, e
	}
	return down, up, api.OK
}

func checkBoth(a, b int) api.Errno {
	if e := Check(a); e != api.OK {
		return e
	}
	return Check(b)
}

// limited returns n as a result, or ErrBig if it is no fixed-point number.
func limited(n int) (int, api.Errno) {
	if Check(n) != api.OK {
		return 0, api.ErrBig
	}
	return n, api.OK
}

func mul(a, b int, to rounding) (int, api.Errno) {
	if e := checkBoth(a, b); e != api.OK {
		return 0, e
	}
	return ratio(a, b, api.One, to)
}

func div(a, b int, to rounding) (int, api.Errno) {
	if e := checkBoth(a, b); e != api.OK {
		return 0, e
	}
	if b == 0 {
		return 0, api.ErrZero
	}
	return signed(a, b, to, func(a, b uint64, to rounding) wide {
		return product(a, api.One).over(b, to)
	})
}

func sqrt(a int, to rounding) (int, api.Errno) {
	if e := Check(a); e != api.OK {
		return 0, e
	}
	if a < 0 {
		return 0, api.ErrArg
	}
	return int(product(uint64(a), api.One).root(to)), api.OK
}

func scale(a, n, d int, to rounding) (int, api.Errno) {
	if e := Check(a); e != api.OK {
		return 0, e
	}
	if n < -maxFactor || n > maxFactor || d < 1 || d > maxFactor {
		return 0, api.ErrArg
	}
	return ratio(a, n, d, to)
}

// ratio returns a * b / d for any a and b, and d from 1 on.
func ratio(a, b, d int, to rounding) (int, api.Errno) {
	return signed(a, b, to, func(a, b uint64, to rounding) wide {
		return product(a, b).over(uint64(d), to)
	})
}

// signed hands the magnitudes of a and b to of, and gives the result the sign of a product or quotient of a and b.
// The floor of a negative number is the negative of the ceiling of its magnitude, so it is rounded the other way.
func signed[T ~int | ~int64](a, b T, to rounding, of func(a, b uint64, to rounding) wide) (T, api.Errno) {
	negative := (a < 0) != (b < 0)
	if negative {
		to = !to
	}
	m := of(magnitude(a), magnitude(b), to)
	if m.exceeds(wide{lo: api.MaxFix}) {
		return 0, api.ErrBig
	}
	if negative {
		return -T(m.lo), api.OK
	}
	return T(m.lo), api.OK
}

// magnitude is right for the least integer too, whose negative wraps around to itself.
func magnitude[T ~int | ~int64](a T) uint64 {
	if a < 0 {
		return uint64(-a)
	}
	return uint64(a)
}
