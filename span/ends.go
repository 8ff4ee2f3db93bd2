package span

import (
	"iter"
	"math"

	"monocle/api"
)

// unary is an operation on one number, with its results rounded down and up.
type unary struct {
	down, up func(a int) (int, api.Errno)
}

// between returns the interval of an operation whose least result is the one at first, and whose greatest is the one at last.
func (o unary) between(first, last int) (api.Span, api.Errno) {
	lo, e := o.down(first)
	if e != api.OK {
		return api.Span{}, e
	}
	hi, e := o.up(last)
	if e != api.OK {
		return api.Span{}, e
	}
	return api.Span{Lo: lo, Hi: hi}, api.OK
}

// binary is an operation on two numbers, with its results rounded down and up.
type binary struct {
	down, up func(a, b int) (int, api.Errno)
}

// at returns the interval of the result for the numbers a and b.
func (o binary) at(a, b int) (api.Span, api.Errno) {
	lo, e := o.down(a, b)
	if e != api.OK {
		return api.Span{}, e
	}
	hi, e := o.up(a, b)
	return api.Span{Lo: lo, Hi: hi}, e
}

// results yields the intervals of the results for each end of a and each end of b.
func (o binary) results(a, b api.Span) iter.Seq2[api.Span, api.Errno] {
	return func(yield func(api.Span, api.Errno) bool) {
		for _, x := range [...]int{a.Lo, a.Hi} {
			for _, y := range [...]int{b.Lo, b.Hi} {
				if !yield(o.at(x, y)) {
					return
				}
			}
		}
	}
}

// overEnds returns the interval of an operation that, if one of its numbers is fixed, only rises or only falls with the other one.
// So its least and its greatest result are at ends, and a result beyond the limit at any of them puts one of the two beyond it.
func (o binary) overEnds(a, b api.Span) (api.Span, api.Errno) {
	extremes := [...]int{math.MaxInt, math.MinInt}
	keep := func(r api.Span) {
		extremes[0] = min(extremes[0], r.Lo)
		extremes[1] = max(extremes[1], r.Hi)
	}
	for r, e := range o.results(a, b) {
		if e != api.OK {
			return api.Span{}, e
		}
		keep(r)
	}
	return api.Span{Lo: extremes[0], Hi: extremes[1]}, api.OK
}
