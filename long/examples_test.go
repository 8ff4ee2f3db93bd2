package long_test

import (
	"slices"
	"testing"

	"monocle/api"
	"monocle/long"
)

// The chapter's examples of Of and Check (P3.1).
func TestExamplesOfDigits(t *testing.T) {
	if a := long.Of(-1000000005); !a.Neg || !slices.Equal(a.Digits, []int{5, 1}) {
		t.Errorf("Of(-1000000005): %v", a)
	}
	if a := long.Of(0); a.Neg || len(a.Digits) != 0 {
		t.Errorf("Of(0): %v", a)
	}
	if e := long.Check(api.Long{Digits: []int{5, 0}}); e != api.ErrDigits {
		t.Errorf("Check of the digits 5 0: error %d", e)
	}
	if e := long.Check(api.Long{Neg: true}); e != api.ErrDigits {
		t.Errorf("Check of Neg without digits: error %d", e)
	}
	a, e := long.Parse("9223372036854775808")
	if n, f := long.Int(a); n != 0 || e != api.OK || f != api.ErrBig {
		t.Errorf("Int of 2^63: %d, errors %d, %d", n, e, f)
	}
}

// The chapter's examples of functions whose result is a long integer (P3.2, P3.3), as texts.
func TestExamplesOfResults(t *testing.T) {
	root := func(a, _ api.Long) (api.Long, api.Errno) { return long.Sqrt(a) }
	for _, x := range []struct {
		name string
		of   two
		a, b string
		want string
		e    api.Errno
	}{
		{"Add", long.Add, "999999999", "1", "1000000000", api.OK},
		{"Mul", long.Mul, "-12", "12", "-144", api.OK},
		{"Gcd", long.Gcd, "12", "-18", "6", api.OK},
		{"Gcd", long.Gcd, "0", "5", "5", api.OK},
		{"Gcd", long.Gcd, "0", "0", "0", api.OK},
		{"Sqrt", root, "99999999999999999999", "0", "9999999999", api.OK},
		{"Sqrt", root, "-1", "0", "0", api.ErrArg},
	} {
		a, e1 := long.Parse(x.a)
		b, e2 := long.Parse(x.b)
		r, e3 := x.of(a, b)
		s, e4 := long.Text(r)
		if s != x.want || e1 != api.OK || e2 != api.OK || e3 != x.e || e4 != api.OK {
			t.Errorf("%s(%s, %s): %s, errors %d, %d, %d, %d; want %s, error %d", x.name, x.a, x.b, s, e1, e2, e3, e4, x.want, x.e)
		}
	}
}

// The chapter's examples of Div (P3.3).
func TestExamplesOfDiv(t *testing.T) {
	for _, x := range []struct {
		a, b, q, r int
		e          api.Errno
	}{
		{7, 2, 3, 1, api.OK},
		{-7, 2, -3, -1, api.OK},
		{7, -2, -3, 1, api.OK},
		{-7, -2, 3, -1, api.OK},
		{1, 0, 0, 0, api.ErrZero},
	} {
		q, r, e := long.Div(long.Of(x.a), long.Of(x.b))
		if !long.Same(q, long.Of(x.q)) || !long.Same(r, long.Of(x.r)) || e != x.e {
			t.Errorf("Div of %d and %d: %v, %v, error %d", x.a, x.b, q, r, e)
		}
	}
}

// The chapter's examples of Parse (P3.4).
func TestExamplesOfParse(t *testing.T) {
	for _, s := range []string{"-0", "007", "+1", ""} {
		a, e := long.Parse(s)
		same(t, "Parse", []any{s}, a, e, api.Long{}, api.ErrForm)
	}
}

// Errors come in their order: that of the digits first, then that of the function, and at last ErrBig.
func TestErrorsInTheirOrder(t *testing.T) {
	wrong, most := api.Long{Neg: true}, largest(api.MaxLimbs)
	if _, _, e := long.Div(wrong, api.Long{}); e != api.ErrDigits {
		t.Errorf("Div of what is not valid by 0: error %d", e)
	}
	if _, _, e := long.Div(most, api.Long{}); e != api.ErrZero {
		t.Errorf("Div of the greatest number by 0: error %d", e)
	}
	for _, a := range []api.Long{{Neg: true}, {Neg: true, Digits: []int{5, 0}}, {Neg: true, Digits: largest(api.MaxLimbs + 1).Digits}} {
		if _, e := long.Sqrt(a); e != api.ErrDigits {
			t.Errorf("Sqrt(%v): error %d", a, e)
		}
	}
	for _, of := range []two{long.Add, long.Sub, long.Mul} {
		for _, p := range [][2]api.Long{{most, wrong}, {wrong, most}, {most, {Digits: []int{base, 1}}}} {
			if _, e := of(p[0], p[1]); e != api.ErrDigits {
				t.Errorf("of %v: error %d", p, e)
			}
		}
	}
	if _, e := long.Int(api.Long{Digits: []int{0, 0, 0, 0, 0}}); e != api.ErrDigits {
		t.Errorf("Int of zeros: error %d", e)
	}
}
