package quot

import (
	"cmp"

	"monocle/api"
	"monocle/long"
)

// number is a long integer that is computed, or the error for which there is none.
type number struct {
	api.Long
	e api.Errno
}

// of returns the number n.
func of(n int) number {
	return number{Long: long.Of(n)}
}

func (a number) plus(b number) number  { return combined(long.Add, a, b) }
func (a number) minus(b number) number { return combined(long.Sub, a, b) }
func (a number) times(b number) number { return combined(long.Mul, a, b) }

// divisor returns the greatest common divisor.
func (a number) divisor(b number) number { return combined(long.Gcd, a, b) }

// combined returns the result of an operation, or the first error of the numbers.
func combined(operation func(a, b api.Long) (api.Long, api.Errno), a, b number) number {
	if e := cmp.Or(a.e, b.e); e != api.OK {
		return number{e: e}
	}
	r, e := operation(a.Long, b.Long)
	return number{r, e}
}

// divided returns the quotient, rounded toward 0, and the rest.
func (a number) divided(b number) (quotient, rest number) {
	if e := cmp.Or(a.e, b.e); e != api.OK {
		return number{e: e}, number{e: e}
	}
	q, r, e := long.Div(a.Long, b.Long)
	return number{q, e}, number{r, e}
}

// over returns the quotient alone.
func (a number) over(b number) number {
	quotient, _ := a.divided(b)
	return quotient
}

// compare returns -1, 0 or 1 if a is less than, equal to, or greater than b.
func (a number) compare(b number) int {
	order, _ := long.Cmp(a.Long, b.Long)
	return order
}

// sign returns -1, 0 or 1 if the number is negative, 0 or positive.
func (a number) sign() int {
	switch {
	case a.Neg:
		return -1
	case len(a.Digits) > 0:
		return 1
	}
	return 0
}

// isOne tells whether the number is 1.
func (a number) isOne() bool {
	return len(a.Digits) == 1 && a.Digits[0] == 1 && !a.Neg
}

// integer returns the number as an int.
func (a number) integer() (int, api.Errno) {
	if a.e != api.OK {
		return 0, a.e
	}
	return long.Int(a.Long)
}
