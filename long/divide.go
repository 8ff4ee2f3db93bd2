package long

import "math/bits"

// divided returns the quotient of a and b, which is not 0, and the rest.
func (a digits) divided(b digits) (quotient, rest digits) {
	switch {
	case len(a) <= 2 && len(b) <= 2:
		n, d := a.small(), b.small()
		return ofSmall(n / d), ofSmall(n % d)
	case len(b) == 1:
		return a.dividedByDigit(b[0])
	case len(a) < len(b):
		return nil, append(digits{}, a...)
	}
	return a.dividedLong(b)
}

// dividedByDigit returns the quotient of a and a digit that is not 0, and the rest.
func (a digits) dividedByDigit(d int) (quotient, rest digits) {
	quotient = make(digits, len(a))
	n := 0
	for i := len(a) - 1; i >= 0; i-- {
		n = n*base + a[i]
		quotient[i], n = n/d, n%d
	}
	return quotient.trimmed(), ofSmall(n)
}

// dividedLong returns the quotient of a and b, which has at least two digits and no more than a, and the rest.
func (a digits) dividedLong(b digits) (quotient, rest digits) {
	rest = make(digits, len(a)+1)
	copy(rest, a)
	quotient = make(digits, len(a)-len(b)+1)
places:
	for place := len(quotient) - 1; place >= 0; place-- {
		window := rest[place : place+len(b)+1]
		digit := window.estimate(b)
		window.subtractTimes(b, digit)
		for {
			if window[len(b)] >= 0 {
				quotient[place] = digit
				continue places
			}
			digit--
			window.addBack(b)
		}
	}
	return quotient.trimmed(), rest.trimmed()
}

// estimate returns the quotient of the first three digits of a and the first two of b. For a less than b * base, it is the quotient of a and b, or one more: the digits that it leaves out of b change it by less than 1, since the first two of b are at least base.
func (a digits) estimate(b digits) int {
	n, m := len(a), len(b)
	hi, lo := bits.Mul64(uint64(a[n-1]*base+a[n-2]), base)
	lo, carry := bits.Add64(lo, uint64(a[n-3]), 0)
	q, _ := bits.Div64(hi+carry, lo, uint64(b[m-1]*base+b[m-2]))
	return int(q)
}

// subtractTimes subtracts b * n from a, which has one digit more than b, and that digit is negative if the difference is.
func (a digits) subtractTimes(b digits, n int) {
	borrow := 0
	for i, d := range b {
		borrow += d * n
		a[i] -= borrow % base
		borrow /= base
		if a[i] < 0 {
			a[i] += base
			borrow++
		}
	}
	a[len(b)] -= borrow
}

// addBack adds b to a, which has one digit more than b.
func (a digits) addBack(b digits) {
	carry := 0
	for i, d := range b {
		carry += a[i] + d
		a[i], carry = carry%base, carry/base
	}
	a[len(b)] += carry
}
