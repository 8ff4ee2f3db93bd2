package poly_test

import (
	"math/big"
	"math/rand/v2"
	"testing"

	"monocle/api"
	"monocle/poly"
	"monocle/span"
)

// inside returns an interval within s.
func inside(source *rand.Rand, s api.Span) api.Span {
	v := s.Lo + source.IntN(s.Hi-s.Lo+1)
	w := s.Lo + source.IntN(s.Hi-s.Lo+1)
	return api.Span{Lo: min(v, w), Hi: max(v, w)}
}

// part returns a call whose intervals are within those of c.
func part(source *rand.Rand, c call) call {
	p := call{s: inside(source, c.s)}
	for _, x := range c.a {
		p.a = append(p.a, inside(source, x))
	}
	return p
}

// member returns a number of s, which may be an end, or lie between fixed-point numbers.
func member(source *rand.Rand, s api.Span) *big.Rat {
	switch source.IntN(4) {
	case 0:
		return number(s.Lo)
	case 1:
		return number(s.Hi)
	}
	x := number(inside(source, s).Lo)
	if x.Cmp(number(s.Hi)) < 0 {
		x.Add(x, big.NewRat(1, 3*api.One))
	}
	return x
}

// members returns a number of each interval.
func members(source *rand.Rand, a []api.Span) []*big.Rat {
	var list []*big.Rat
	for _, x := range a {
		list = append(list, member(source, x))
	}
	return list
}

// within tells whether a is within b.
func within(a, b api.Span) bool {
	return b.Lo <= a.Lo && a.Hi <= b.Hi
}

// P8.3: the results contain those of every polynomial of numbers in the coefficients, at every number of s.
func TestResultsAreContained(t *testing.T) {
	source := rand.New(rand.NewPCG(3, 8))
	for _, f := range functions() {
		for n := range api.MaxPoly + 1 {
			for _, c := range calls(3, n, 1500) {
				r, e := f.of(c.a, c.s)
				if e != api.OK {
					continue
				}
				for range 3 {
					a, s := members(source, c.a), member(source, c.s)
					if !contains(r, f.at(a, s)) {
						t.Errorf("%s(%v; %v): %v without the result of %v at %v", f.name, c.a, c.s, r, a, s)
					}
				}
			}
		}
	}
}

// P8.3: the result for intervals within the arguments is within the former one, and there is one.
func TestResultsAreWithin(t *testing.T) {
	source := rand.New(rand.NewPCG(4, 8))
	for _, f := range functions() {
		for n := range api.MaxPoly + 1 {
			for _, c := range calls(4, n, 1500) {
				r, e := f.of(c.a, c.s)
				if e != api.OK {
					continue
				}
				p := part(source, c)
				if q, g := f.of(p.a, p.s); g != api.OK || !within(q, r) {
					t.Errorf("%s(%v; %v): %v, error %d, beyond %v of %v; %v", f.name, p.a, p.s, q, g, r, c.a, c.s)
				}
			}
		}
	}
}

// P8.3: for s = 0 the results are the first two coefficients, and 0 where there are none.
func TestAtZero(t *testing.T) {
	for n := range api.MaxPoly + 1 {
		for _, c := range calls(5, n, 1500) {
			var first, second api.Span
			if n > 0 {
				first = c.a[0]
			}
			if n > 1 {
				second = c.a[1]
			}
			if r, e := poly.Eval(c.a, api.Span{}); r != first || e != api.OK {
				t.Errorf("Eval(%v; 0): %v, error %d", c.a, r, e)
			}
			if r, e := poly.Slope(c.a, api.Span{}); e == api.OK && r != second || e != api.OK && e != api.ErrBig {
				t.Errorf("Slope(%v; 0): %v, error %d", c.a, r, e)
			}
		}
	}
}

// P8.3: the values at s and t differ by the product of t - s and a number in the slope for an interval that contains both.
func TestDifferencesOfValues(t *testing.T) {
	source := rand.New(rand.NewPCG(6, 8))
	for n := range api.MaxPoly + 1 {
		count := 0
		for _, c := range calls(6, n, 3000) {
			slope, e := poly.Slope(c.a, c.s)
			x, y := member(source, c.s), member(source, c.s)
			way := new(big.Rat).Sub(y, x)
			if e != api.OK || way.Sign() == 0 {
				continue
			}
			count++
			a := members(source, c.a)
			ratio := new(big.Rat).Sub(valueAt(a, y), valueAt(a, x))
			if !contains(slope, ratio.Quo(ratio, way)) {
				t.Errorf("Slope(%v; %v): %v, but %v has the values %v at %v and %v at %v", c.a, c.s, slope, a, valueAt(a, x), x, valueAt(a, y), y)
			}
		}
		if count < 200 {
			t.Errorf("%d coefficients: just %d differences", n, count)
		}
	}
}

// P8.3: the same for results: the difference of values and the product have a number in common.
func TestDifferencesOfResults(t *testing.T) {
	source := rand.New(rand.NewPCG(7, 8))
	for n := range api.MaxPoly + 1 {
		count := 0
		for _, c := range calls(7, n, 3000) {
			low, high := point(inside(source, c.s).Lo), point(inside(source, c.s).Hi)
			a, e := poly.Eval(c.a, low)
			b, f := poly.Eval(c.a, high)
			slope, g := poly.Slope(c.a, c.s)
			if e != api.OK || f != api.OK || g != api.OK {
				continue
			}
			way, _ := span.Sub(high, low)
			difference, e := span.Sub(b, a)
			product, f := span.Mul(way, slope)
			if e != api.OK || f != api.OK {
				continue
			}
			count++
			if _, e := span.Meet(difference, product); e != api.OK {
				t.Errorf("Eval(%v) from %v to %v: %v, but not within %v", c.a, low, high, difference, product)
			}
		}
		if count < 200 {
			t.Errorf("%d coefficients: just %d differences", n, count)
		}
	}
}
