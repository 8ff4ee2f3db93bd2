package poly_test

import (
	"math"
	"math/big"
	"math/rand/v2"
	"testing"

	"monocle/api"
	"monocle/poly"
)

// function is one of the two functions of the package.
type function struct {
	name  string
	of    func(a []api.Span, s api.Span) (api.Span, api.Errno)
	exact func(a []api.Span, s api.Span) api.Span // the same, by exact numbers; it panics with the first error
	at    func(a []*big.Rat, s *big.Rat) *big.Rat // the same for numbers
}

// functions are both of them, with what the chapter's section Terms says of each.
func functions() []function {
	return []function{
		{"Eval", poly.Eval, evaluated, valueAt},
		{"Slope", poly.Slope, func(a []api.Span, s api.Span) api.Span { return evaluated(derived(a), s) }, slopeAt},
	}
}

// wanted returns the result of exact, or its error.
func (f function) wanted(a []api.Span, s api.Span) (r api.Span, e api.Errno) {
	defer func() {
		if p := recover(); p != nil {
			r, e = api.Span{}, p.(api.Errno)
		}
	}()
	return f.exact(a, s), api.OK
}

// compare tests a function, and returns its error.
func (f function) compare(t *testing.T, a []api.Span, s api.Span) api.Errno {
	t.Helper()
	want, wantE := f.wanted(a, s)
	f.same(t, a, s, want, wantE)
	return wantE
}

// same reports a result that is not the wanted one.
func (f function) same(t *testing.T, a []api.Span, s, want api.Span, wantE api.Errno) {
	t.Helper()
	if r, e := f.of(a, s); r != want || e != wantE {
		t.Errorf("%s(%v; %v): %v, error %d; want %v, error %d", f.name, a, s, r, e, want, wantE)
	}
}

// evaluated returns the value that the section Terms defines.
func evaluated(a []api.Span, s api.Span) api.Span {
	if len(a) == 0 {
		return api.Span{}
	}
	v := a[len(a)-1]
	for k := len(a) - 2; k >= 0; k-- {
		v = sum(product(v, s), a[k])
	}
	return v
}

// derived returns the coefficients of the slope that the section Terms defines.
func derived(a []api.Span) []api.Span {
	var d []api.Span
	for k, c := range a {
		if k > 0 {
			d = append(d, multiple(c, k))
		}
	}
	return d
}

func sum(x, y api.Span) api.Span {
	return valid(big.NewInt(int64(x.Lo+y.Lo)), big.NewInt(int64(x.Hi+y.Hi)))
}

// multiple returns the product of x and a number from 1 on.
func multiple(x api.Span, n int) api.Span {
	return valid(big.NewInt(int64(x.Lo*n)), big.NewInt(int64(x.Hi*n)))
}

// product returns the interval from the least product of two ends, rounded down, to the greatest one, rounded up.
func product(x, y api.Span) api.Span {
	var least, greatest *big.Int
	for _, v := range []int{x.Lo, x.Hi} {
		for _, w := range []int{y.Lo, y.Hi} {
			p := new(big.Int).Mul(big.NewInt(int64(v)), big.NewInt(int64(w)))
			if least == nil || p.Cmp(least) < 0 {
				least = p
			}
			if greatest == nil || p.Cmp(greatest) > 0 {
				greatest = p
			}
		}
	}
	up := floor(new(big.Int).Neg(greatest))
	return valid(floor(least), up.Neg(up))
}

// floor returns n / One, rounded down.
func floor(n *big.Int) *big.Int {
	return new(big.Int).Div(n, big.NewInt(api.One)) // Div rounds down if the divisor is positive
}

// valid returns the interval from lo to hi, and panics if it is beyond the limit.
func valid(lo, hi *big.Int) api.Span {
	limit := big.NewInt(api.MaxFix)
	if lo.CmpAbs(limit) > 0 || hi.CmpAbs(limit) > 0 {
		panic(api.ErrBig)
	}
	return api.Span{Lo: int(lo.Int64()), Hi: int(hi.Int64())}
}

// valueAt returns the value of a polynomial of numbers, as the sum of its terms.
func valueAt(a []*big.Rat, s *big.Rat) *big.Rat {
	total, power := new(big.Rat), big.NewRat(1, 1)
	for _, c := range a {
		total.Add(total, new(big.Rat).Mul(c, power))
		power = new(big.Rat).Mul(power, s)
	}
	return total
}

// slopeAt returns the derivative of a polynomial of numbers, as the sum of those of its terms.
func slopeAt(a []*big.Rat, s *big.Rat) *big.Rat {
	total, power := new(big.Rat), big.NewRat(1, 1)
	for k := 1; k < len(a); k++ {
		term := new(big.Rat).Mul(a[k], power)
		total.Add(total, term.Mul(term, big.NewRat(int64(k), 1)))
		power = new(big.Rat).Mul(power, s)
	}
	return total
}

// number returns the number that v stands for.
func number(v int) *big.Rat {
	return big.NewRat(int64(v), api.One)
}

// contains tells whether the number x is in s.
func contains(s api.Span, x *big.Rat) bool {
	return number(s.Lo).Cmp(x) <= 0 && x.Cmp(number(s.Hi)) <= 0
}

// point returns the interval of the number v / One alone.
func point(v int) api.Span {
	return api.Span{Lo: v, Hi: v}
}

// wholes returns intervals of the numbers alone.
func wholes(numbers ...int) []api.Span {
	var a []api.Span
	for _, n := range numbers {
		a = append(a, point(n*api.One))
	}
	return a
}

// interval returns an interval with ends of either sign and any size up to 2^bits, which is often a great one, and often a narrow one.
func interval(source *rand.Rand, bits int) api.Span {
	limit := 1 << bits
	v := int(source.Uint64()) >> (63 - bits) >> source.IntN(1+source.IntN(bits)) // at least -limit, and less than limit
	width := source.IntN(limit) >> source.IntN(bits)
	if source.IntN(4) == 0 {
		width = 0
	}
	return api.Span{Lo: v, Hi: min(v+width, limit)}
}

// call is a polynomial and the interval for which it is evaluated.
type call struct {
	a []api.Span
	s api.Span
}

// calls returns valid calls with n coefficients: for a seed always the same ones.
func calls(seed uint64, n, count int) []call {
	source := rand.New(rand.NewPCG(seed, uint64(n)))
	list := make([]call, count)
	for i := range list {
		bits := 30 + source.IntN(23)
		for range n {
			list[i].a = append(list[i].a, interval(source, bits))
		}
		list[i].s = interval(source, 20+source.IntN(33))
	}
	return list
}

// invalid returns intervals that are not valid, though some of them have valid ends, or few numbers.
func invalid() []api.Span {
	const far = api.MaxFix + 1
	return []api.Span{
		{Lo: 1, Hi: 0},
		{Lo: 0, Hi: -1},
		{Lo: api.MaxFix, Hi: -api.MaxFix},
		{Lo: 0, Hi: far},
		{Lo: -far, Hi: 0},
		{Lo: far, Hi: far},
		{Lo: -far, Hi: -far},
		{Lo: math.MinInt, Hi: math.MaxInt},
		{Lo: math.MaxInt, Hi: math.MinInt},
		{Lo: math.MinInt, Hi: math.MinInt},
		{Lo: math.MaxInt, Hi: math.MaxInt},
	}
}
