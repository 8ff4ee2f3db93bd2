package span_test

import (
	"math/big"
	"math/rand/v2"
	"testing"

	"monocle/api"
	"monocle/span"
)

// operation is an operation on two numbers, of which the second one may be without effect.
type operation struct {
	name    string
	of      two
	numbers func(x, y *big.Rat) *big.Rat
}

// first makes a function of two of a function of one, which takes the first.
func first(of one) two {
	return func(a, _ api.Span) (api.Span, api.Errno) { return of(a) }
}

// operations are all that have a result for two numbers, but for roots.
func operations() []operation {
	list := []operation{
		{"Add", span.Add, func(x, y *big.Rat) *big.Rat { return new(big.Rat).Add(x, y) }},
		{"Sub", span.Sub, func(x, y *big.Rat) *big.Rat { return new(big.Rat).Sub(x, y) }},
		{"Mul", span.Mul, func(x, y *big.Rat) *big.Rat { return new(big.Rat).Mul(x, y) }},
		{"Div", span.Div, func(x, y *big.Rat) *big.Rat { return new(big.Rat).Quo(x, y) }},
		{"Neg", first(span.Neg), func(x, _ *big.Rat) *big.Rat { return new(big.Rat).Neg(x) }},
		{"Abs", first(span.Abs), func(x, _ *big.Rat) *big.Rat { return new(big.Rat).Abs(x) }},
		{"Sqr", first(span.Sqr), func(x, _ *big.Rat) *big.Rat { return power(x, 2) }},
		{"Scale", first(scale(-5, 7)), func(x, _ *big.Rat) *big.Rat { return new(big.Rat).Mul(x, big.NewRat(-5, 7)) }},
	}
	for _, n := range []int{0, 1, 2, 3, 6, 7, api.MaxPower} {
		list = append(list, operation{"Pow", first(pow(n)), func(x, _ *big.Rat) *big.Rat { return power(x, n) }})
	}
	return list
}

// inside returns an interval within a.
func inside(source *rand.Rand, a api.Span) api.Span {
	v := a.Lo + source.IntN(a.Hi-a.Lo+1)
	w := a.Lo + source.IntN(a.Hi-a.Lo+1)
	return api.Span{Lo: min(v, w), Hi: max(v, w)}
}

// within tells whether a is within b.
func within(a, b api.Span) bool {
	return b.Lo <= a.Lo && a.Hi <= b.Hi
}

// contains tells whether the real number x is in a.
func contains(a api.Span, x *big.Rat) bool {
	return number(a.Lo).Cmp(x) <= 0 && x.Cmp(number(a.Hi)) <= 0
}

// P2.6: the results of numbers of intervals are in the interval of the operation.
func TestResultsAreContained(t *testing.T) {
	source := rand.New(rand.NewPCG(1, 6))
	bs := spans(7, 5000)
	for i, a := range spans(6, 5000) {
		for _, o := range operations() {
			r, e := o.of(a, bs[i])
			if e != api.OK {
				continue
			}
			x, y := number(inside(source, a).Lo), number(inside(source, bs[i]).Hi)
			if !contains(r, o.numbers(x, y)) {
				t.Errorf("%s(%v, %v): %v without the result of %v, %v", o.name, a, bs[i], r, x, y)
			}
		}
		if r, e := span.Sqrt(a); e == api.OK {
			x := inside(source, a).Lo
			if low, _ := root(x); int(low.Int64()) < r.Lo || int(low.Int64()) > r.Hi {
				t.Errorf("Sqrt(%v): %v without the root of %d", a, r, x)
			}
		}
	}
}

// P2.6: the results of intervals within others are within their results.
func TestResultsAreWithin(t *testing.T) {
	source := rand.New(rand.NewPCG(2, 6))
	others := []operation{{"Min", span.Min, nil}, {"Max", span.Max, nil}, {"Hull", span.Hull, nil}, {"Sqrt", first(span.Sqrt), nil}}
	bs := spans(9, 5000)
	for i, a := range spans(8, 5000) {
		for _, o := range append(operations(), others...) {
			r, e := o.of(a, bs[i])
			if e != api.OK {
				continue
			}
			c, d := inside(source, a), inside(source, bs[i])
			if s, e := o.of(c, d); e != api.OK || !within(s, r) {
				t.Errorf("%s(%v, %v): %v, error %d, beyond %v of %v, %v", o.name, c, d, s, e, r, a, bs[i])
			}
		}
		r, e := span.Meet(a, bs[i])
		c, d := inside(source, a), inside(source, bs[i])
		if s, f := span.Meet(c, d); f == api.OK && (e != api.OK || !within(s, r)) {
			t.Errorf("Meet(%v, %v): %v beyond %v of %v, %v", c, d, s, r, a, bs[i])
		}
	}
}

// P2.6: sums and products do not depend on the order of their arguments.
func TestOrderOfArguments(t *testing.T) {
	for name, of := range map[string]two{"Add": span.Add, "Mul": span.Mul} {
		bs := spans(11, 5000)
		for i, a := range spans(10, 5000) {
			r, e := of(a, bs[i])
			s, f := of(bs[i], a)
			same(t, name, []any{a, bs[i]}, r, e, s, f)
		}
		for _, a := range edges() {
			for _, b := range edges() {
				r, e := of(a, b)
				s, f := of(b, a)
				same(t, name, []any{a, b}, r, e, s, f)
			}
		}
	}
}

// P2.6: the square is within the product of an interval and itself, and it is the second power.
func TestSquares(t *testing.T) {
	for _, a := range append(edges(), spans(12, 5000)...) {
		s, e := span.Sqr(a)
		p, f := span.Mul(a, a)
		if f == api.OK && (e != api.OK || !within(s, p)) {
			t.Errorf("Sqr(%v): %v, error %d, beyond %v", a, s, e, p)
		}
		q, g := span.Pow(a, 2)
		same(t, "Pow 2", []any{a}, q, g, s, e)
	}
}

// P2.6: a number is in Meet exactly if it is in both intervals.
func TestMeetHas(t *testing.T) {
	bs := spans(14, 5000)
	for i, a := range append(spans(13, 5000), edges()...) {
		b := bs[i%len(bs)]
		m, e := span.Meet(a, b)
		for _, v := range append(ascending(), a.Lo, a.Hi, b.Lo, b.Hi, a.Lo-1, a.Hi+1, b.Lo-1, b.Hi+1) {
			inA, _ := span.Has(a, v)
			inB, _ := span.Has(b, v)
			inM, f := span.Has(m, v)
			if f != api.OK || (e == api.OK && inM) != (inA && inB) {
				t.Errorf("Meet(%v, %v): %v, error %d, with or without %d", a, b, m, e, v)
			}
		}
	}
}
