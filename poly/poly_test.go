package poly_test

import (
	"math"
	"slices"
	"testing"

	"monocle/api"
)

// P8.1, P8.2: values and slopes with every number of coefficients, for numbers of all sizes and both signs, with results and with errors.
func TestFunctions(t *testing.T) {
	for _, f := range functions() {
		for n := range api.MaxPoly + 1 {
			counts := map[api.Errno]int{}
			for _, c := range calls(1, n, 3000) {
				counts[f.compare(t, c.a, c.s)]++
			}
			least := map[api.Errno]int{api.OK: 200, api.ErrBig: 100}
			if n < 2 || f.name == "Slope" && n == 2 {
				least = map[api.Errno]int{api.OK: 3000} // there is no operation but the multiplication by 1
			}
			for e, count := range least {
				if counts[e] < count {
					t.Errorf("%s with %d coefficients: error %d just %d times", f.name, n, e, counts[e])
				}
			}
		}
	}
}

// P8.1, P8.2: no coefficients are the polynomial 0, whether the slice is nil or empty.
func TestNoCoefficients(t *testing.T) {
	top := point(api.MaxFix)
	for _, f := range functions() {
		for _, a := range [][]api.Span{nil, {}, wholes(1, 2, 3)[:0]} {
			for _, s := range []api.Span{{}, top, {Lo: -api.MaxFix, Hi: api.MaxFix}} {
				f.same(t, a, s, api.Span{}, api.OK)
			}
			for _, s := range invalid() {
				f.same(t, a, s, api.Span{}, api.ErrSpan)
			}
		}
	}
}

// P8.1, P8.2: more than MaxPoly coefficients have ErrLong, whatever they are, and whatever s is.
func TestTooManyCoefficients(t *testing.T) {
	for _, f := range functions() {
		f.same(t, make([]api.Span, api.MaxPoly), api.Span{}, api.Span{}, api.OK)
		for _, n := range []int{api.MaxPoly + 1, api.MaxPoly + 2, 2 * api.MaxPoly, 1000} {
			for _, s := range append(invalid(), api.Span{}, point(api.MaxFix)) {
				f.same(t, make([]api.Span, n), s, api.Span{}, api.ErrLong)
				f.same(t, slices.Repeat([]api.Span{point(api.MaxFix)}, n), s, api.Span{}, api.ErrLong)
			}
			for _, bad := range invalid() {
				for _, k := range []int{0, n / 2, n - 1} {
					a := make([]api.Span, n)
					a[k] = bad
					f.same(t, a, api.Span{}, api.Span{}, api.ErrLong)
					f.same(t, a, bad, api.Span{}, api.ErrLong)
				}
			}
		}
	}
}

// P8.1, P8.2: an invalid coefficient at any place, or an invalid s, has ErrSpan, though operations would have results beyond the limit. The constant counts for the slope, too.
func TestInvalid(t *testing.T) {
	top := point(api.MaxFix)
	for _, f := range functions() {
		for n := range api.MaxPoly + 1 {
			for _, other := range []api.Span{{}, point(api.One), top} {
				a := slices.Repeat([]api.Span{other}, n)
				for _, bad := range invalid() {
					f.same(t, a, bad, api.Span{}, api.ErrSpan)
					for k := range n {
						b := slices.Clone(a)
						b[k] = bad
						f.same(t, b, other, api.Span{}, api.ErrSpan)
						f.same(t, b, bad, api.Span{}, api.ErrSpan)
					}
				}
			}
		}
	}
}

// P8.1: each product and each sum may be the one whose result is beyond the limit.
func TestLimitsOfValues(t *testing.T) {
	const limit = api.MaxFix
	eval := named(t, "Eval")
	for n := 2; n <= api.MaxPoly; n++ {
		for k := n - 2; k >= 0; k-- { // the product with s, and the sum with the coefficient k
			a := make([]api.Span, n)
			one := point(api.One)
			for _, sign := range []int{1, -1} {
				a[k+1] = point(sign * limit)
				eval.same(t, a, point(api.One+1), api.Span{}, api.ErrBig)
				eval.same(t, a, point(-api.One-1), api.Span{}, api.ErrBig)
				eval.same(t, a, api.Span{Lo: 0, Hi: api.One + 1}, api.Span{}, api.ErrBig)
				eval.same(t, a, one, a[k+1], api.OK)
				a[k] = point(sign)
				eval.same(t, a, one, api.Span{}, api.ErrBig)
				a[k] = point(-sign)
				eval.same(t, a, one, point(sign*(limit-1)), api.OK)
				a[k] = api.Span{Lo: min(0, sign), Hi: max(0, sign)}
				eval.same(t, a, one, api.Span{}, api.ErrBig)
				a[k] = api.Span{}
			}
		}
	}
}

// P8.2: the same for each multiplication by a whole number, and for the products and sums after it. What is multiplied counts even for s = 0.
func TestLimitsOfSlopes(t *testing.T) {
	const limit = api.MaxFix
	slope := named(t, "Slope")
	for n := 3; n <= api.MaxPoly; n++ {
		for k := 2; k < n; k++ {
			most := limit / k // the greatest number of units whose multiple is within the limit
			for _, sign := range []int{1, -1} {
				a := make([]api.Span, n)
				a[k] = point(sign * (most + 1))
				slope.same(t, a, api.Span{}, api.Span{}, api.ErrBig)
				a[k] = api.Span{Lo: min(0, sign*(most+1)), Hi: max(0, sign*(most+1))}
				slope.same(t, a, api.Span{}, api.Span{}, api.ErrBig)
				a[k] = point(sign * most)
				slope.same(t, a, api.Span{}, api.Span{}, api.OK)
				slope.same(t, a, point(api.One), point(sign*most*k), api.OK)
				slope.same(t, a, point(2*api.One), api.Span{}, api.ErrBig)
				a[k-1] = a[k] // its multiple has the factor k - 1
				slope.same(t, a, point(api.One), api.Span{}, api.ErrBig)
				a[k-1] = point(-sign * most)
				slope.same(t, a, point(api.One), point(sign*most), api.OK)
			}
		}
	}
}

// P8.2: the constant and the linear coefficient may be at the limit, since the one does not count and the other is multiplied by 1.
func TestLimitsWithoutEffect(t *testing.T) {
	top, all := point(api.MaxFix), api.Span{Lo: -api.MaxFix, Hi: api.MaxFix}
	for _, s := range []api.Span{{}, top, all} {
		named(t, "Eval").same(t, []api.Span{all}, s, all, api.OK)
		named(t, "Slope").same(t, []api.Span{all}, s, api.Span{}, api.OK)
		named(t, "Slope").same(t, []api.Span{top, all}, s, all, api.OK)
		named(t, "Slope").same(t, []api.Span{all, top}, s, top, api.OK)
	}
}

// P8.1, P8.2: no argument is changed (R3), nor what lies behind it in memory, and the results are the same at a second call (R5).
func TestArgumentsAreKept(t *testing.T) {
	mark := api.Span{Lo: math.MinInt, Hi: math.MaxInt}
	for _, f := range functions() {
		for n := range api.MaxPoly + 3 {
			list := append(calls(2, n, 200), call{a: slices.Repeat([]api.Span{point(api.MaxFix)}, n), s: point(api.MaxFix)})
			for _, c := range list {
				room := slices.Concat(c.a, []api.Span{mark, mark, mark})
				before := slices.Clone(room)
				r, e := f.of(room[:n], c.s)
				again, again2 := f.of(room[:n], c.s)
				if !slices.Equal(room, before) {
					t.Errorf("%s(%v; %v) leaves %v", f.name, c.a, c.s, room)
				}
				if r != again || e != again2 {
					t.Errorf("%s(%v; %v): %v, error %d, and then %v, error %d", f.name, c.a, c.s, r, e, again, again2)
				}
			}
		}
	}
}
