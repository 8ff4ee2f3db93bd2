package quot

import (
	"monocle/api"
	"monocle/span"
)

// Limits of Near.
const (
	maxScale = 1000000000000
	maxNear  = 1 << 62
)

// span returns the smallest interval that contains a, or ErrBig.
func (a fraction) span() (api.Span, api.Errno) {
	down, rest := a.scaled(of(api.One))
	lo, e := down.integer()
	if e != api.OK {
		return api.Span{}, e
	}
	s, e := span.Of(lo, lo+rest.sign())
	if e != api.OK {
		return api.Span{}, api.ErrBig
	}
	return s, api.OK
}

// near returns a * scale, rounded to the nearest integer, and up if there are two.
func (a fraction) near(scale int) (int, api.Errno) {
	if scale < 1 || scale > maxScale {
		return 0, api.ErrArg
	}
	whole, rest := a.scaled(of(scale))
	if rest.compare(a.denominator.minus(rest)) >= 0 {
		whole = whole.plus(of(1))
	}
	n, e := whole.integer()
	if e == api.OK && (n < -maxNear || n > maxNear) {
		e = api.ErrBig
	}
	return n, e
}
