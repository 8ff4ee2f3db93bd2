package quot_test

import (
	"math"
	"math/big"
	"testing"

	"monocle/api"
	"monocle/quot"
)

// R2: functions of an invalid fraction have ErrQuot, whatever else is wrong, and no result.
func TestInvalidFraction(t *testing.T) {
	for _, a := range invalid() {
		for name, of := range map[string]one{"Neg": quot.Neg, "Abs": quot.Abs} {
			r, e := of(a)
			expect(t, name, a, r, e, api.Quot{}, api.ErrQuot)
		}
		n, e := quot.Floor(a)
		expect(t, "Floor", a, api.Quot{N: n}, e, api.Quot{}, api.ErrQuot)
		if s, e := quot.Sign(a); s != 0 || e != api.ErrQuot {
			t.Errorf("Sign(%v): %d, error %d", a, s, e)
		}
		if s, e := quot.Span(a); s != (api.Span{}) || e != api.ErrQuot {
			t.Errorf("Span(%v): %v, error %d", a, s, e)
		}
		if s, e := quot.Text(a); s != "" || e != api.ErrQuot {
			t.Errorf("Text(%v): %q, error %d", a, s, e)
		}
		for _, scale := range []int{1, 1000, 0, -1, math.MaxInt} {
			if n, e := quot.Near(a, scale); n != 0 || e != api.ErrQuot {
				t.Errorf("Near(%v, %d): %d, error %d", a, scale, n, e)
			}
		}
	}
}

// R2: so have functions of two fractions, if one of them is invalid.
func TestInvalidFractions(t *testing.T) {
	others := invalid()
	for _, b := range edges() {
		others = append(others, b.Quot)
	}
	for _, a := range invalid() {
		for _, b := range others {
			for name, of := range map[string]two{"Add": quot.Add, "Sub": quot.Sub, "Mul": quot.Mul, "Div": quot.Div} {
				r, e := of(a, b)
				expect(t, name, []api.Quot{a, b}, r, e, api.Quot{}, api.ErrQuot)
				r, e = of(b, a)
				expect(t, name, []api.Quot{b, a}, r, e, api.Quot{}, api.ErrQuot)
			}
			c, e := quot.Cmp(a, b)
			d, f := quot.Cmp(b, a)
			if c != 0 || d != 0 || e != api.ErrQuot || f != api.ErrQuot {
				t.Errorf("Cmp of %v and %v: %d, %d, errors %d, %d", a, b, c, d, e, f)
			}
		}
	}
}

// P4.3: ErrZero for 0 alone, and ErrBig for a quotient by a number next to it.
func TestZeroDivisor(t *testing.T) {
	zero := fit(new(big.Rat))[0].Quot
	for _, a := range edges() {
		r, e := quot.Div(a.Quot, zero)
		expect(t, "Div by 0", a.x, r, e, api.Quot{}, api.ErrZero)
	}
	most := tens(api.MaxLimbs, -1)
	list := fit(whole(most), ratio(big.NewInt(1), most))
	r, e := quot.Div(list[0].Quot, list[1].Quot)
	expect(t, "Div", "of the greatest number by the least one", r, e, api.Quot{}, api.ErrBig)
}
