package span_test

import (
	"math"
	"testing"

	"monocle/api"
	"monocle/span"
)

// pow returns the function that raises intervals to the n-th power.
func pow(n int) one {
	return func(a api.Span) (api.Span, api.Errno) { return span.Pow(a, n) }
}

// scale returns the function that multiplies intervals by n / d.
func scale(n, d int) one {
	return func(a api.Span) (api.Span, api.Errno) { return span.Scale(a, n, d) }
}

// The chapter's examples of functions of one interval (P2.2 to P2.4).
func TestExamplesOfOne(t *testing.T) {
	const half = api.One / 2
	for _, x := range []struct {
		name    string
		of      one
		a, want api.Span
		e       api.Errno
	}{
		{"Neg", span.Neg, whole(1, 2), whole(-2, -1), api.OK},
		{"Sqr", span.Sqr, whole(-1, 2), whole(0, 4), api.OK},
		{"Pow 3", pow(3), whole(-2, 1), whole(-8, 1), api.OK},
		{"Pow 17", pow(17), whole(1, 2), api.Span{}, api.ErrArg},
		{"Sqrt", span.Sqrt, whole(4, 9), whole(2, 3), api.OK},
		{"Scale", scale(-1, 2), whole(2, 3), api.Span{Lo: -3 * half, Hi: -api.One}, api.OK},
		{"Abs", span.Abs, whole(-3, 2), whole(0, 3), api.OK},
	} {
		r, e := x.of(x.a)
		same(t, x.name, []any{x.a}, r, e, x.want, x.e)
	}
}

// The chapter's examples of functions of two intervals (P2.2 to P2.4).
func TestExamplesOfTwo(t *testing.T) {
	for _, x := range []struct {
		name       string
		of         two
		a, b, want api.Span
		e          api.Errno
	}{
		{"Add", span.Add, whole(1, 2), whole(3, 4), whole(4, 6), api.OK},
		{"Sub", span.Sub, whole(1, 2), whole(3, 4), whole(-3, -1), api.OK},
		{"Mul", span.Mul, whole(-1, 2), whole(-3, 4), whole(-6, 8), api.OK},
		{"Mul", span.Mul, whole(1<<20, 1<<20), whole(-1, 2), api.Span{}, api.ErrBig},
		{"Div", span.Div, whole(1, 2), whole(-4, -2), api.Span{Lo: -api.One, Hi: -api.One / 4}, api.OK},
		{"Div", span.Div, whole(1, 2), whole(0, 1), api.Span{}, api.ErrZero},
		{"Div", span.Div, whole(1, 1), whole(3, 3), api.Span{Lo: 1431655765, Hi: 1431655766}, api.OK},
		{"Min", span.Min, whole(1, 4), whole(2, 3), whole(1, 3), api.OK},
		{"Max", span.Max, whole(1, 4), whole(2, 3), whole(2, 4), api.OK},
		{"Hull", span.Hull, whole(1, 2), whole(4, 5), whole(1, 5), api.OK},
		{"Meet", span.Meet, whole(1, 2), whole(4, 5), api.Span{}, api.ErrNone},
	} {
		r, e := x.of(x.a, x.b)
		same(t, x.name, []any{x.a, x.b}, r, e, x.want, x.e)
	}
}

// The chapter's examples of functions with numbers (P2.1, P2.5).
func TestExamplesOfNumbers(t *testing.T) {
	if m, e := span.Mid(whole(1, 2)); m != 3<<31 || e != api.OK {
		t.Errorf("Mid: %d, error %d", m, e)
	}
	if w, e := span.Width(whole(1, 2)); w != 1<<32 || e != api.OK {
		t.Errorf("Width: %d, error %d", w, e)
	}
	if s, e := span.Sign(whole(0, 1)); s != 2 || e != api.OK {
		t.Errorf("Sign: %d, error %d", s, e)
	}
	if s, e := span.Sign(whole(0, 0)); s != 0 || e != api.OK {
		t.Errorf("Sign: %d, error %d", s, e)
	}
	a, e := span.Of(2, 1)
	same(t, "Of", []any{2, 1}, a, e, api.Span{}, api.ErrSpan)
	a, e = span.Point(1<<52 + 1)
	same(t, "Point", []any{1<<52 + 1}, a, e, api.Span{}, api.ErrSpan)
	a, e = span.Dec(1, 1)
	same(t, "Dec", []any{1, 1}, a, e, api.Span{Lo: 429496729, Hi: 429496730}, api.OK)
}

// Intervals that are not valid have ErrSpan, whatever else is wrong (P2.2 to P2.4).
func TestInvalidIntervals(t *testing.T) {
	ones := map[string]one{
		"Neg": span.Neg, "Sqr": span.Sqr, "Sqrt": span.Sqrt, "Abs": span.Abs,
		"Pow 0": pow(0), "Pow 2": pow(2), "Pow 17": pow(17), "Pow -1": pow(-1),
		"Scale by 1": scale(1, 1), "Scale without d": scale(0, 0), "Scale by too much": scale(math.MaxInt, 1),
	}
	twos := map[string]two{
		"Add": span.Add, "Sub": span.Sub, "Mul": span.Mul, "Div": span.Div,
		"Min": span.Min, "Max": span.Max, "Hull": span.Hull, "Meet": span.Meet,
	}
	for _, a := range invalid() {
		for name, of := range ones {
			r, e := of(a)
			same(t, name, []any{a}, r, e, api.Span{}, api.ErrSpan)
		}
		for name, of := range twos {
			for _, b := range append(invalid(), edges()...) {
				r, e := of(a, b)
				same(t, name, []any{a, b}, r, e, api.Span{}, api.ErrSpan)
				r, e = of(b, a)
				same(t, name, []any{b, a}, r, e, api.Span{}, api.ErrSpan)
			}
		}
	}
}

// The same for the functions whose results are numbers (P2.5).
func TestInvalidIntervalsOfNumbers(t *testing.T) {
	for _, a := range invalid() {
		for _, v := range []int{0, 1, a.Lo, a.Hi, math.MinInt, math.MaxInt} {
			if has, e := span.Has(a, v); has || e != api.ErrSpan {
				t.Errorf("Has(%v, %d): %t, error %d", a, v, has, e)
			}
		}
		for name, of := range map[string]func(api.Span) (int, api.Errno){"Mid": span.Mid, "Width": span.Width, "Sign": span.Sign} {
			if n, e := of(a); n != 0 || e != api.ErrSpan {
				t.Errorf("%s(%v): %d, error %d", name, a, n, e)
			}
		}
	}
}

// ErrBig comes after all other errors: these would have results beyond the limit, too (P2.2, P2.3).
func TestErrBigIsLast(t *testing.T) {
	all := api.Span{Lo: -api.MaxFix, Hi: api.MaxFix}
	top := api.Span{Lo: api.MaxFix, Hi: api.MaxFix}
	for _, x := range []struct {
		name string
		of   one
		a    api.Span
		e    api.Errno
	}{
		{"Pow 16", pow(16), top, api.ErrBig},
		{"Pow 17", pow(17), top, api.ErrArg},
		{"Pow -1", pow(-1), all, api.ErrArg},
		{"Sqr", span.Sqr, all, api.ErrBig},
		{"Sqrt", span.Sqrt, all, api.ErrArg},
		{"Scale", scale(maxFactor, 1), top, api.ErrBig},
		{"Scale", scale(-maxFactor, 1), api.Span{Lo: 0, Hi: 1}, api.ErrBig},
		{"Scale", scale(maxFactor, 0), top, api.ErrArg},
		{"Scale", scale(maxFactor+1, 1), top, api.ErrArg},
		{"Scale", scale(-maxFactor-1, 1), all, api.ErrArg},
	} {
		r, e := x.of(x.a)
		same(t, x.name, []any{x.a}, r, e, api.Span{}, x.e)
	}
	for _, b := range []api.Span{all, {}, {Lo: 0, Hi: 1}, {Lo: -1, Hi: 0}} {
		r, e := span.Div(top, b)
		same(t, "Div", []any{top, b}, r, e, api.Span{}, api.ErrZero)
	}
	r, e := span.Div(top, api.Span{Lo: 1, Hi: api.MaxFix})
	same(t, "Div", []any{top}, r, e, api.Span{}, api.ErrBig)
}

// Results at the limit, and those of which just one end is beyond it (P2.2, P2.3).
func TestLimits(t *testing.T) {
	const (
		limit = api.MaxFix
		p     = 1<<42 + 1<<21 // p * q is 2^84 + 2^21
		q     = 1<<42 - 1<<21 + 1
	)
	point := func(v int) api.Span { return api.Span{Lo: v, Hi: v} }
	for _, x := range []struct {
		name       string
		of         two
		a, b, want api.Span
		e          api.Errno
	}{
		{"Add", span.Add, api.Span{Lo: 1 - limit, Hi: limit - 1}, api.Span{Lo: -1, Hi: 1}, api.Span{Lo: -limit, Hi: limit}, api.OK},
		{"Add", span.Add, api.Span{Lo: 0, Hi: limit}, api.Span{Lo: 0, Hi: 1}, api.Span{}, api.ErrBig},
		{"Add", span.Add, api.Span{Lo: -limit, Hi: 0}, api.Span{Lo: -1, Hi: 0}, api.Span{}, api.ErrBig},
		{"Add", span.Add, api.Span{Lo: -limit, Hi: limit}, api.Span{}, api.Span{Lo: -limit, Hi: limit}, api.OK},
		{"Sub", span.Sub, api.Span{Lo: 0, Hi: limit}, api.Span{Lo: 0, Hi: limit}, api.Span{Lo: -limit, Hi: limit}, api.OK},
		{"Sub", span.Sub, api.Span{Lo: 0, Hi: limit}, api.Span{Lo: -1, Hi: 0}, api.Span{}, api.ErrBig},
		{"Sub", span.Sub, api.Span{Lo: -limit, Hi: 0}, api.Span{Lo: 0, Hi: 1}, api.Span{}, api.ErrBig},
		{"Mul", span.Mul, point(limit), whole(-1, 1), api.Span{Lo: -limit, Hi: limit}, api.OK},
		{"Mul", span.Mul, point(p), point(q), api.Span{}, api.ErrBig},
		{"Mul", span.Mul, point(-p), point(q), api.Span{}, api.ErrBig},
		{"Mul", span.Mul, point(1<<42 + 1), point(1<<42 - 1), api.Span{Lo: limit - 1, Hi: limit}, api.OK},
		{"Div", span.Div, api.Span{Lo: -limit, Hi: limit}, whole(1, 2), api.Span{Lo: -limit, Hi: limit}, api.OK},
		{"Div", span.Div, point(limit), point(api.One - 1), api.Span{}, api.ErrBig},
		{"Div", span.Div, point(-limit), api.Span{Lo: api.One - 1, Hi: api.One}, api.Span{}, api.ErrBig},
		{"Hull", span.Hull, point(limit), point(-limit), api.Span{Lo: -limit, Hi: limit}, api.OK},
		{"Meet", span.Meet, point(limit), api.Span{Lo: -limit, Hi: limit}, point(limit), api.OK},
	} {
		r, e := x.of(x.a, x.b)
		same(t, x.name, []any{x.a, x.b}, r, e, x.want, x.e)
	}
	r, e := scale(maxFactor, maxFactor-1)(point(limit - 1)) // MaxFix - 1 and a little more
	same(t, "Scale", []any{limit - 1}, r, e, api.Span{Lo: limit - 1, Hi: limit}, api.OK)
	r, e = scale(maxFactor, maxFactor-1)(point(limit))
	same(t, "Scale", []any{limit}, r, e, api.Span{}, api.ErrBig)
	r, e = scale(-maxFactor, maxFactor-1)(point(limit))
	same(t, "Scale", []any{limit}, r, e, api.Span{}, api.ErrBig)
	r, e = pow(4)(whole(-32, 31))
	same(t, "Pow", []any{4}, r, e, api.Span{Lo: 0, Hi: limit}, api.OK)
	r, e = pow(5)(whole(-16, 16))
	same(t, "Pow", []any{5}, r, e, api.Span{Lo: -limit, Hi: limit}, api.OK)
}
