package span_test

import (
	"math"
	"math/big"
	"testing"

	"monocle/api"
	"monocle/span"
)

// P2.1: Check accepts just the valid intervals, and Of and Point return just those.
func TestCheckOfPoint(t *testing.T) {
	for _, a := range append(edges(), spans(1, 1000)...) {
		if e := span.Check(a); e != api.OK {
			t.Errorf("Check(%v): error %d", a, e)
		}
		r, e := span.Of(a.Lo, a.Hi)
		same(t, "Of", []any{a.Lo, a.Hi}, r, e, a, api.OK)
		r, e = span.Point(a.Lo)
		same(t, "Point", []any{a.Lo}, r, e, api.Span{Lo: a.Lo, Hi: a.Lo}, api.OK)
	}
	for _, a := range invalid() {
		if e := span.Check(a); e != api.ErrSpan {
			t.Errorf("Check(%v): error %d", a, e)
		}
		r, e := span.Of(a.Lo, a.Hi)
		same(t, "Of", []any{a.Lo, a.Hi}, r, e, api.Span{}, api.ErrSpan)
	}
	for _, v := range []int{api.MaxFix + 1, -api.MaxFix - 1, math.MaxInt, math.MinInt} {
		r, e := span.Point(v)
		same(t, "Point", []any{v}, r, e, api.Span{}, api.ErrSpan)
	}
}

// P2.1: decimal numbers, with the errors of fix.FromDec.
func TestDec(t *testing.T) {
	compare := func(n, digits int) {
		t.Helper()
		a, e := span.Dec(n, digits)
		want, f := api.Span{}, api.ErrArg
		if 0 <= digits && digits <= 12 {
			ten := power(big.NewRat(10, 1), digits)
			x := new(big.Rat).SetInt64(int64(n))
			want, f = around([]*big.Rat{x.Quo(x, ten)})
		}
		same(t, "Dec", []any{n, digits}, a, e, want, f)
	}
	list := append(ints(3, 1000), ascending()...)
	limit := 1 << 20 // the number that MaxFix stands for
	for range 13 {
		list = append(list, limit-1, limit, limit+1, 1-limit, -limit, -limit-1)
		limit *= 10
	}
	for _, n := range append(list, math.MinInt, math.MaxInt) {
		for digits := range 15 {
			compare(n, digits)
		}
		for _, digits := range []int{-1, math.MinInt, math.MaxInt} {
			compare(n, digits)
		}
	}
}

// P2.2: sums, differences and negatives.
func TestAddSubNeg(t *testing.T) {
	compareTwo(t, "Add", span.Add, ofTwo(func(x, y *big.Rat) *big.Rat { return new(big.Rat).Add(x, y) }))
	compareTwo(t, "Sub", span.Sub, ofTwo(func(x, y *big.Rat) *big.Rat { return new(big.Rat).Sub(x, y) }))
	compareOne(t, "Neg", span.Neg, ofOne(func(x *big.Rat) *big.Rat { return new(big.Rat).Neg(x) }))
}

// P2.2: products and squares.
func TestMulSqr(t *testing.T) {
	compareTwo(t, "Mul", span.Mul, ofTwo(func(x, y *big.Rat) *big.Rat { return new(big.Rat).Mul(x, y) }))
	compareOne(t, "Sqr", span.Sqr, ofOne(func(x *big.Rat) *big.Rat { return power(x, 2) }))
}

// largest returns the greatest fixed-point number with an n-th power that is one too, for n from 1 on.
func largest(n int) int {
	low, high := 0, api.MaxFix
	limit := number(api.MaxFix)
	for low < high {
		v := (low + high + 1) / 2
		if power(number(v), n).Cmp(limit) > 0 {
			high = v - 1
		} else {
			low = v
		}
	}
	return low
}

// near returns intervals with numbers next to v and -v, as far as they are fixed-point numbers.
func near(v int) []api.Span {
	var list []api.Span
	for d := -2; d <= 2; d++ {
		w := v + d
		for _, a := range []api.Span{{Lo: w, Hi: w}, {Lo: 0, Hi: w}, {Lo: -1, Hi: w}, {Lo: w / 2, Hi: w}, {Lo: -w, Hi: w}, {Lo: -w, Hi: -w}, {Lo: -w, Hi: 0}, {Lo: -w, Hi: 1}} {
			if valid(a) {
				list = append(list, a)
			}
		}
	}
	return list
}

// P2.2: powers are exact before they are rounded, for all exponents, and up to the limit.
func TestPow(t *testing.T) {
	for n := range api.MaxPower + 1 {
		of := func(a api.Span) (api.Span, api.Errno) { return span.Pow(a, n) }
		want := ofOne(func(x *big.Rat) *big.Rat { return power(x, n) })
		compareOne(t, "Pow", of, want)
		if n == 0 {
			continue
		}
		for _, a := range append(near(largest(n)), near(api.One)...) {
			r, e := of(a)
			w, f := want(a)
			same(t, "Pow", []any{a, n}, r, e, w, f)
		}
		for _, v := range ints(uint64(n), 1000) { // numbers with powers within the limit
			v %= largest(n) + 1
			a := api.Span{Lo: min(v, v/2), Hi: max(v, v/2)}
			r, e := of(a)
			w, f := want(a)
			if e != api.OK {
				t.Errorf("Pow(%v, %d): error %d", a, n, e)
			}
			same(t, "Pow", []any{a, n}, r, e, w, f)
		}
	}
}

// compareAt tests the n-th power of the number that v stands for, and of its negative, and returns the first one.
func compareAt(t *testing.T, v, n int) api.Span {
	t.Helper()
	want := ofOne(func(x *big.Rat) *big.Rat { return power(x, n) })
	for _, a := range []api.Span{{Lo: v, Hi: v}, {Lo: -v, Hi: -v}} {
		r, e := span.Pow(a, n)
		w, f := want(a)
		same(t, "Pow", []any{a, n}, r, e, w, f)
	}
	r, _ := span.Pow(api.Span{Lo: v, Hi: v}, n)
	return r
}

// P2.2: powers just below a multiple of 1, which rounding up carries to it.
func TestPowRoundedUpToWhole(t *testing.T) {
	carried := 0
	for k := range int64(1000) {
		root := new(big.Int).Sqrt(new(big.Int).Lsh(big.NewInt(k+1), 64))
		r := compareAt(t, int(root.Int64()), 2)
		if r.Lo < r.Hi && r.Hi%api.One == 0 {
			carried++
		}
	}
	if carried == 0 {
		t.Errorf("no power is rounded up to a multiple of 1")
	}
}

// P2.2: powers of large numbers, in which products of 64 bits and what is carried to them come to more than 64 bits.
func TestPowCarries(t *testing.T) {
	for _, v := range []int{427961807352, 427882734154, 427778756536, 427765854695} {
		compareAt(t, v, 3)
	}
	for _, v := range []int{68645555013, 68564963507, 68406635628, 68373399707} {
		compareAt(t, v, 5)
	}
}

// P2.2: the power with the exponent 0 is 1, of 0 too; exponents beyond 0 to 16 have none, whatever the interval.
func TestPowExponents(t *testing.T) {
	for _, a := range edges() {
		r, e := span.Pow(a, 0)
		same(t, "Pow", []any{a, 0}, r, e, whole(1, 1), api.OK)
		r, e = span.Pow(a, 1)
		same(t, "Pow", []any{a, 1}, r, e, a, api.OK)
		for _, n := range []int{-1, 17, math.MinInt, math.MaxInt} {
			r, e := span.Pow(a, n)
			same(t, "Pow", []any{a, n}, r, e, api.Span{}, api.ErrArg)
		}
	}
}

// P2.3: quotients, and ErrZero for all divisors with 0, whatever is divided.
func TestDiv(t *testing.T) {
	quotients := ofTwo(func(x, y *big.Rat) *big.Rat { return new(big.Rat).Quo(x, y) })
	compareTwo(t, "Div", span.Div, func(a, b api.Span) (api.Span, api.Errno) {
		if b.Lo <= 0 && b.Hi >= 0 {
			return api.Span{}, api.ErrZero
		}
		return quotients(a, b)
	})
}

// root returns the square root of the number that v stands for in units of One, rounded down, and whether that is exact.
func root(v int) (*big.Int, bool) {
	square := new(big.Int).Mul(big.NewInt(int64(v)), big.NewInt(api.One))
	r := new(big.Int).Sqrt(square)
	return r, new(big.Int).Mul(r, r).Cmp(square) == 0
}

// P2.3: roots, and ErrArg for all intervals with a negative number.
func TestSqrt(t *testing.T) {
	compareOne(t, "Sqrt", span.Sqrt, func(a api.Span) (api.Span, api.Errno) {
		if a.Lo < 0 {
			return api.Span{}, api.ErrArg
		}
		lo, _ := root(a.Lo)
		hi, exact := root(a.Hi)
		if !exact {
			hi.Add(hi, big.NewInt(1))
		}
		return between(lo, hi)
	})
}

// P2.3: scaled intervals, with n and d at and beyond their limits.
func TestScale(t *testing.T) {
	compare := func(a api.Span, n, d int) {
		t.Helper()
		r, e := span.Scale(a, n, d)
		want, f := api.Span{}, api.ErrArg
		if -maxFactor <= n && n <= maxFactor && 1 <= d && d <= maxFactor {
			factor := big.NewRat(int64(n), int64(d))
			want, f = ofOne(func(x *big.Rat) *big.Rat { return new(big.Rat).Mul(x, factor) })(a)
		}
		same(t, "Scale", []any{a, n, d}, r, e, want, f)
	}
	ns := []int{0, 1, -1, 2, -3, api.One, maxFactor, -maxFactor, maxFactor + 1, -maxFactor - 1, math.MaxInt, math.MinInt}
	for _, a := range edges() {
		for _, n := range ns {
			for _, d := range []int{1, 2, 7, maxFactor - 1, maxFactor, 0, -1, maxFactor + 1, math.MinInt, math.MaxInt} {
				compare(a, n, d)
			}
		}
	}
	numerators, denominators := ints(4, 10000), ints(5, 10000)
	for i, a := range spans(1, 10000) {
		compare(a, numerators[i], denominators[i])
	}
}

// P2.4: absolute values, lesser and greater numbers.
func TestAbsMinMax(t *testing.T) {
	compareOne(t, "Abs", span.Abs, ofOne(func(x *big.Rat) *big.Rat { return new(big.Rat).Abs(x) }))
	compareTwo(t, "Min", span.Min, ofTwo(func(x, y *big.Rat) *big.Rat {
		if x.Cmp(y) < 0 {
			return x
		}
		return y
	}))
	compareTwo(t, "Max", span.Max, ofTwo(func(x, y *big.Rat) *big.Rat {
		if x.Cmp(y) > 0 {
			return x
		}
		return y
	}))
}

// P2.4: the smallest interval that contains both.
func TestHull(t *testing.T) {
	compareTwo(t, "Hull", span.Hull, func(a, b api.Span) (api.Span, api.Errno) {
		return around(append(points(a), points(b)...))
	})
}

// P2.4: common numbers: intervals that only touch have one, and such as do not have none.
func TestMeet(t *testing.T) {
	compareTwo(t, "Meet", span.Meet, func(a, b api.Span) (api.Span, api.Errno) {
		var common []*big.Rat // an end of the common numbers is an end of one of both
		for _, v := range []int{a.Lo, a.Hi, b.Lo, b.Hi} {
			if a.Lo <= v && v <= a.Hi && b.Lo <= v && v <= b.Hi {
				common = append(common, number(v))
			}
		}
		if common == nil {
			return api.Span{}, api.ErrNone
		}
		return around(common)
	})
}

// P2.5: numbers in an interval, for any integer.
func TestHas(t *testing.T) {
	for _, a := range append(edges(), spans(1, 1000)...) {
		for _, d := range []int{-1, 0, 1} {
			for _, v := range []int{a.Lo + d, a.Hi + d, (a.Lo+a.Hi)/2 + d} {
				if has, e := span.Has(a, v); has != (a.Lo <= v && v <= a.Hi) || e != api.OK {
					t.Errorf("Has(%v, %d): %t, error %d", a, v, has, e)
				}
			}
		}
		for _, v := range []int{math.MinInt, math.MaxInt} {
			if has, e := span.Has(a, v); has || e != api.OK {
				t.Errorf("Has(%v, %d): %t, error %d", a, v, has, e)
			}
		}
	}
}

// P2.5: middles, rounded down, and widths.
func TestMidWidth(t *testing.T) {
	for _, a := range append(edges(), spans(1, 5000)...) {
		sum := big.NewInt(int64(a.Lo + a.Hi))
		want := int(sum.Div(sum, big.NewInt(2)).Int64()) // the floor
		if m, e := span.Mid(a); m != want || e != api.OK {
			t.Errorf("Mid(%v): %d, error %d", a, m, e)
		}
		if w, e := span.Width(a); a.Lo+w != a.Hi || e != api.OK {
			t.Errorf("Width(%v): %d, error %d", a, w, e)
		}
	}
	for _, x := range []struct{ lo, hi, mid, width int }{
		{0, 1, 0, 1},
		{-1, 0, -1, 1},
		{-2, -1, -2, 1},
		{-3, 0, -2, 3},
		{-api.MaxFix, api.MaxFix, 0, 1 << 53}, // no fixed-point number, but no interval either
		{-api.MaxFix, api.MaxFix - 1, -1, 1<<53 - 1},
		{api.MaxFix, api.MaxFix, api.MaxFix, 0},
	} {
		a := api.Span{Lo: x.lo, Hi: x.hi}
		m, e := span.Mid(a)
		w, f := span.Width(a)
		if m != x.mid || w != x.width || e != api.OK || f != api.OK {
			t.Errorf("Mid, Width(%v): %d, %d, errors %d, %d", a, m, w, e, f)
		}
	}
}

// P2.5: signs.
func TestSign(t *testing.T) {
	for _, x := range []struct{ lo, hi, sign int }{
		{0, 0, 0},
		{1, 1, 1},
		{-1, -1, -1},
		{1, api.MaxFix, 1},
		{-api.MaxFix, -1, -1},
		{0, 1, 2},
		{-1, 0, 2},
		{-1, 1, 2},
		{-api.MaxFix, 0, 2},
		{0, api.MaxFix, 2},
		{-api.MaxFix, api.MaxFix, 2},
	} {
		if s, e := span.Sign(api.Span{Lo: x.lo, Hi: x.hi}); s != x.sign || e != api.OK {
			t.Errorf("Sign(%d, %d): %d, error %d", x.lo, x.hi, s, e)
		}
	}
}
