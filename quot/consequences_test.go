package quot_test

import (
	"math/rand/v2"
	"testing"

	"monocle/api"
	"monocle/long"
	"monocle/quot"
)

// must returns a result that has no error.
func must(t *testing.T) func(a api.Quot, e api.Errno) api.Quot {
	return func(a api.Quot, e api.Errno) api.Quot {
		t.Helper()
		if e != api.OK {
			t.Fatalf("error %d", e)
		}
		return a
	}
}

// triples returns fractions with which sums and products of three of them fit.
func triples() [][3]api.Quot {
	source := rand.New(rand.NewPCG(12, 12))
	var list [][3]api.Quot
	for range 1000 {
		most := []int{1, 3, 10, 90}[source.IntN(4)]
		of := func() api.Quot { return fit(random(source, most))[0].Quot }
		list = append(list, [3]api.Quot{of(), of(), of()})
	}
	return list
}

// P4.6: sums and products do not depend on the order of their arguments, with or without an error.
func TestOrderOfArguments(t *testing.T) {
	t.Parallel()
	for name, f := range map[string]two{"Add": quot.Add, "Mul": quot.Mul} {
		for _, p := range append(longPairs(), pairs()[:300]...) {
			r, e := f(p[0].Quot, p[1].Quot)
			w, g := f(p[1].Quot, p[0].Quot)
			expect(t, name, p, r, e, w, g)
		}
	}
}

// P4.6: the distributive law.
func TestDistributiveLaw(t *testing.T) {
	r := must(t)
	for _, x := range triples() {
		left := r(quot.Mul(r(quot.Add(x[0], x[1])), x[2]))
		right := r(quot.Add(r(quot.Mul(x[0], x[2])), r(quot.Mul(x[1], x[2]))))
		expect(t, "distributive law", x, left, api.OK, right, api.OK)
	}
}

// P4.6: subtracting undoes adding, and dividing undoes multiplying, also where numbers are long.
func TestUndone(t *testing.T) {
	t.Parallel()
	for _, p := range longPairs() {
		a, b := p[0].Quot, p[1].Quot
		if sum, e := quot.Add(a, b); e == api.OK {
			back, f := quot.Sub(sum, b)
			expect(t, "a + b - b", p, back, f, a, api.OK)
		}
	}
	r := must(t)
	for _, x := range triples() {
		expect(t, "a + b - b", x, r(quot.Sub(r(quot.Add(x[0], x[1])), x[1])), api.OK, x[0], api.OK)
		expect(t, "a * b / b", x, r(quot.Div(r(quot.Mul(x[0], x[1])), x[1])), api.OK, x[0], api.OK)
	}
}

// P4.6: comparing agrees with the sign of the difference.
func TestCmpAgreesWithSub(t *testing.T) {
	t.Parallel()
	for _, p := range pairs() {
		difference, e := quot.Sub(p[0].Quot, p[1].Quot)
		if e != api.OK {
			continue
		}
		sign, _ := quot.Sign(difference)
		if c, f := quot.Cmp(p[0].Quot, p[1].Quot); c != sign || f != api.OK {
			t.Errorf("Cmp(%v, %v): %d, error %d; the difference has the sign %d", p[0].x, p[1].x, c, f, sign)
		}
	}
}

// P4.6: the greatest integer that is at most a is at most a, and one more is greater.
func TestFloorIsBelow(t *testing.T) {
	r := must(t)
	for _, a := range append(edges(), fractions(13, 500)...) {
		n, e := quot.Floor(a.Quot)
		below := r(quot.Make(n, long.Of(1)))
		c, f := quot.Cmp(below, a.Quot)
		if c > 0 || e != api.OK || f != api.OK {
			t.Errorf("Floor(%v): %v, errors %d, %d", a.x, n, e, f)
		}
		next, e := long.Add(n, long.Of(1))
		if e != api.OK {
			continue // one more than the greatest long integer
		}
		if c, e := quot.Cmp(r(quot.Make(next, long.Of(1))), a.Quot); c != 1 || e != api.OK {
			t.Errorf("Floor(%v): %v, though one more is no greater, error %d", a.x, n, e)
		}
	}
}

// P4.6: the ends of an interval are alike, or one apart, with the fraction between them.
func TestSpanIsNarrow(t *testing.T) {
	r := must(t)
	for _, a := range append(edges(), fractions(14, 1000)...) {
		s, e := quot.Span(a.Quot)
		if e != api.OK {
			continue
		}
		low, _ := quot.Cmp(r(quot.Of(s.Lo, api.One)), a.Quot)
		high, _ := quot.Cmp(r(quot.Of(s.Hi, api.One)), a.Quot)
		if s.Hi-s.Lo != -low || low > 0 || high < 0 {
			t.Errorf("Span(%v): %v", a.x, s)
		}
	}
}

// P4.6: Near is at most 1/2 away.
func TestNearIsNear(t *testing.T) {
	r := must(t)
	for i, a := range append(edges(), fractions(15, 1000)...) {
		scale := []int{1, 7, 1000000, maxScale}[i%4]
		n, e := quot.Near(a.Quot, scale)
		if e != api.OK || len(a.D.Digits) > 300 {
			continue
		}
		off := r(quot.Abs(r(quot.Sub(r(quot.Mul(a.Quot, r(quot.Of(scale, 1)))), r(quot.Of(n, 1))))))
		if c, _ := quot.Cmp(off, r(quot.Of(1, 2))); c > 0 {
			t.Errorf("Near(%v, %d): %d, which is %v away", a.x, scale, n, off)
		}
	}
}

// P4.6: Parse inverts Text.
func TestParseInvertsText(t *testing.T) {
	for _, a := range append(edges(), fractions(16, 1000)...) {
		s, e := quot.Text(a.Quot)
		r, f := quot.Parse(s)
		expect(t, "Parse", s, r, f, a.Quot, e)
	}
}
