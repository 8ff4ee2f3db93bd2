package poly_test

import (
	"testing"

	"monocle/api"
)

// named returns the function with a name.
func named(t *testing.T, name string) function {
	t.Helper()
	for _, f := range functions() {
		if f.name == name {
			return f
		}
	}
	t.Fatalf("there is no function %s", name)
	return function{}
}

// The chapter's examples (P8.1, P8.2).
func TestExamples(t *testing.T) {
	wide := api.Span{Lo: -api.One, Hi: 2 * api.One}
	for _, x := range []struct {
		name    string
		a       []api.Span
		s, want api.Span
		e       api.Errno
	}{
		{"Eval", wholes(1, 2, 3), point(2 * api.One), point(17 * api.One), api.OK},
		{"Slope", wholes(1, 2, 3), point(2 * api.One), point(14 * api.One), api.OK},
		{"Eval", wholes(1, 0, 1), wide, api.Span{Lo: -api.One, Hi: 5 * api.One}, api.OK},
		{"Slope", wholes(1, 0, 1), wide, api.Span{Lo: -2 * api.One, Hi: 4 * api.One}, api.OK},
		{"Eval", nil, point(5 * api.One), api.Span{}, api.OK},
		{"Slope", wholes(7), point(5 * api.One), api.Span{}, api.OK},
		{"Eval", wholes(0, 0, 1), point(1025 * api.One), api.Span{}, api.ErrBig},
		{"Eval", make([]api.Span, 9), api.Span{}, api.Span{}, api.ErrLong},
	} {
		named(t, x.name).same(t, x.a, x.s, x.want, x.e)
	}
}

// All coefficients have their places, and their factors in the slope (P8.1, P8.2).
func TestPlacesOfCoefficients(t *testing.T) {
	power, slope := 1, 0 // 2^k, and k 2^(k-1)
	for k := range api.MaxPoly {
		a := make([]api.Span, api.MaxPoly)
		a[k] = point(3 * api.One)
		for _, b := range [][]api.Span{a, a[:k+1]} {
			named(t, "Eval").same(t, b, point(2*api.One), point(3*power*api.One), api.OK)
			named(t, "Slope").same(t, b, point(2*api.One), point(3*slope*api.One), api.OK)
			negative := 3 * api.One
			if k%2 == 1 {
				negative = -negative
			}
			named(t, "Eval").same(t, b, point(-api.One), point(negative), api.OK)
			named(t, "Slope").same(t, b, point(-api.One), point(-k*negative), api.OK)
		}
		power, slope = 2*power, 2*slope+power
	}
}

// Results are rounded at each operation, and not at the end (P8.1, P8.2).
func TestRounding(t *testing.T) {
	half := point(api.One / 2)
	unit := point(1)
	for _, x := range []struct {
		name string
		a    []api.Span
		s    api.Span
		want api.Span
	}{
		{"Eval", []api.Span{{}, unit}, half, api.Span{Lo: 0, Hi: 1}},
		{"Eval", []api.Span{{}, {}, unit}, half, api.Span{Lo: 0, Hi: 1}},
		{"Eval", []api.Span{{}, unit, unit}, half, api.Span{Lo: 0, Hi: 1}},
		{"Eval", []api.Span{unit, unit, unit, unit}, half, api.Span{Lo: 1, Hi: 2}},
		{"Eval", []api.Span{{}, {}, point(-1)}, half, api.Span{Lo: -1, Hi: 0}},
		{"Slope", []api.Span{{}, {}, unit}, half, api.Span{Lo: 1, Hi: 1}}, // 2 units times a half
		{"Slope", []api.Span{{}, {}, {}, unit}, half, api.Span{Lo: 0, Hi: 1}},
		{"Slope", []api.Span{{}, {}, {}, point(-3)}, half, api.Span{Lo: -3, Hi: -2}},
	} {
		named(t, x.name).same(t, x.a, x.s, x.want, api.OK)
	}
}
