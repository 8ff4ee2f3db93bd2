package quot_test

import (
	"testing"

	"monocle/api"
	"monocle/long"
	"monocle/quot"
)

// The chapter's examples of Of and Check (P4.1).
func TestExamplesOfParts(t *testing.T) {
	for _, x := range []struct {
		n, d, wantN, wantD int
		e                  api.Errno
	}{{6, -4, -3, 2, api.OK}, {0, 5, 0, 1, api.OK}, {1, 0, 0, 0, api.ErrZero}} {
		a, e := quot.Of(x.n, x.d)
		expect(t, "Of", x, a, e, api.Quot{N: long.Of(x.wantN), D: long.Of(x.wantD)}, x.e)
	}
	for _, x := range [][2]int{{2, 4}, {1, 0}} {
		if e := quot.Check(api.Quot{N: long.Of(x[0]), D: long.Of(x[1])}); e != api.ErrQuot {
			t.Errorf("Check of %d / %d: error %d", x[0], x[1], e)
		}
	}
}

// The chapter's examples of functions whose result is a text or a number (P4.2 to P4.4), as texts.
func TestExamplesOfResults(t *testing.T) {
	number := func(n int, e api.Errno) (string, api.Errno) {
		s, _ := long.Text(long.Of(n))
		return s, e
	}
	text := func(a api.Quot, e api.Errno) (string, api.Errno) {
		s, _ := quot.Text(a)
		return s, e
	}
	cmp := func(a, b api.Quot) (string, api.Errno) { return number(quot.Cmp(a, b)) }
	sign := func(a, _ api.Quot) (string, api.Errno) { return number(quot.Sign(a)) }
	floor := func(a, _ api.Quot) (string, api.Errno) {
		n, e := quot.Floor(a)
		s, _ := long.Text(n)
		return s, e
	}
	near := func(scale int) func(a, b api.Quot) (string, api.Errno) {
		return func(a, _ api.Quot) (string, api.Errno) { return number(quot.Near(a, scale)) }
	}
	of := func(f two) func(a, b api.Quot) (string, api.Errno) {
		return func(a, b api.Quot) (string, api.Errno) { return text(f(a, b)) }
	}
	for _, x := range []struct {
		name string
		of   func(a, b api.Quot) (string, api.Errno)
		a, b string
		want string
		e    api.Errno
	}{
		{"Add", of(quot.Add), "1/2", "1/3", "5/6", api.OK},
		{"Sub", of(quot.Sub), "1/2", "1/2", "0", api.OK},
		{"Mul", of(quot.Mul), "-2/3", "3/2", "-1", api.OK},
		{"Div", of(quot.Div), "1", "-2/3", "-3/2", api.OK},
		{"Div", of(quot.Div), "1", "0", "", api.ErrZero},
		{"Cmp", cmp, "1/3", "1/2", "-1", api.OK},
		{"Sign", sign, "-1/2", "0", "-1", api.OK},
		{"Floor", floor, "-1/2", "0", "-1", api.OK},
		{"Near 1", near(1), "1/2", "0", "1", api.OK},
		{"Near 1", near(1), "-1/2", "0", "0", api.OK},
		{"Near 1000", near(1000), "2/3", "0", "667", api.OK},
		{"Near 0", near(0), "1", "0", "0", api.ErrArg},
		{"Text", of(func(a, _ api.Quot) (api.Quot, api.Errno) { return a, api.OK }), "-3/2", "0", "-3/2", api.OK},
	} {
		a, e1 := quot.Parse(x.a)
		b, e2 := quot.Parse(x.b)
		if s, e := x.of(a, b); s != x.want || e != x.e || e1 != api.OK || e2 != api.OK {
			t.Errorf("%s(%s, %s): %s, errors %d, %d, %d; want %s, error %d", x.name, x.a, x.b, s, e1, e2, e, x.want, x.e)
		}
	}
}

// The chapter's examples of Span (P4.4).
func TestExamplesOfSpan(t *testing.T) {
	for text, want := range map[string]api.Span{
		"1/3": {Lo: 1431655765, Hi: 1431655766},
		"-3":  {Lo: -3 * api.One, Hi: -3 * api.One},
	} {
		a, f := quot.Parse(text)
		if s, e := quot.Span(a); s != want || e != api.OK || f != api.OK {
			t.Errorf("Span(%s): %v, errors %d, %d", text, s, e, f)
		}
	}
}

// The chapter's examples of Parse (P4.5).
func TestExamplesOfParse(t *testing.T) {
	a, e := quot.Parse("3/2")
	expect(t, "Parse", "3/2", a, e, api.Quot{N: long.Of(3), D: long.Of(2)}, api.OK)
	for _, s := range []string{"2/4", "3/1", "1/-2", "1/"} {
		a, e := quot.Parse(s)
		expect(t, "Parse", s, a, e, api.Quot{}, api.ErrForm)
	}
}
