package vec_test

import (
	"testing"

	"monocle/api"
	"monocle/vec"
)

// P6.1 to P6.3: all operations for numbers of all sizes and both signs, each of them with results and with errors.
func TestOperations(t *testing.T) {
	as, bs := vectors(1, 8000), vectors(2, 8000)
	for _, o := range operations() {
		counts := map[api.Errno]int{}
		for i, a := range as {
			counts[o.compare(t, a, bs[i])]++
		}
		least := map[api.Errno]int{api.OK: 200, api.ErrBig: 200}
		switch o.name {
		case "Neg":
			delete(least, api.ErrBig)
		case "Unit":
			least[api.ErrZero] = 200
		}
		for e, n := range least {
			if counts[e] < n {
				t.Errorf("%s: error %d just %d times", o.name, e, counts[e])
			}
		}
	}
}

// P6.1: Check accepts just the valid vectors.
func TestCheck(t *testing.T) {
	for _, a := range vectors(3, 2000) {
		if e := vec.Check(a); e != api.OK {
			t.Errorf("Check(%v): error %d", a, e)
		}
		for k := range a {
			for _, s := range invalid() {
				b := a
				b[k] = s
				if e := vec.Check(b); e != api.ErrSpan {
					t.Errorf("Check(%v): error %d", b, e)
				}
			}
		}
	}
	for _, s := range invalid() {
		if e := vec.Check(api.Vec{s, s, s}); e != api.ErrSpan {
			t.Errorf("Check of %v alone: error %d", s, e)
		}
	}
}

// P6.1 to P6.3: one invalid interval at any place has ErrSpan, though others have results beyond the limit, or a norm of 0.
func TestInvalid(t *testing.T) {
	top := point(api.MaxFix)
	all := api.Span{Lo: -api.MaxFix, Hi: api.MaxFix}
	others := []api.Vec{{}, whole(1, 2, 3), {top, top, top}, {all, all, all}}
	for _, o := range operations() {
		for _, v := range others {
			for place := range o.intervals {
				for _, s := range invalid() {
					args := [2]api.Vec{v, v}
					args[place/3][place%3] = s
					o.same(t, args[0], args[1], api.Vec{}, api.ErrSpan)
				}
			}
		}
		for _, s := range invalid() {
			o.same(t, api.Vec{s, s, s}, api.Vec{s, s, s}, api.Vec{}, api.ErrSpan)
		}
	}
}

// at returns the vector of zeros with s in the component k.
func at(k int, s api.Span) api.Vec {
	var a api.Vec
	a[k] = s
	return a
}

// P6.1: results at the limit, and such as just one end of one component is beyond it.
func TestLimitsOfComponents(t *testing.T) {
	const limit = api.MaxFix
	one, most := point(api.One), point(limit)
	low, high := api.Span{Lo: -limit, Hi: 0}, api.Span{Lo: 0, Hi: limit}
	for _, x := range []struct {
		name       string
		a, b, want api.Span
		e          api.Errno
	}{
		{"Add", most, point(-1), point(limit - 1), api.OK},
		{"Add", point(limit - 1), point(1), most, api.OK},
		{"Add", high, api.Span{Lo: 0, Hi: 1}, api.Span{}, api.ErrBig},
		{"Add", low, api.Span{Lo: -1, Hi: 0}, api.Span{}, api.ErrBig},
		{"Sub", high, high, api.Span{Lo: -limit, Hi: limit}, api.OK},
		{"Sub", high, api.Span{Lo: -1, Hi: 0}, api.Span{}, api.ErrBig},
		{"Sub", low, api.Span{Lo: 0, Hi: 1}, api.Span{}, api.ErrBig},
		{"Neg", api.Span{Lo: -limit, Hi: 1}, api.Span{}, api.Span{Lo: -1, Hi: limit}, api.OK},
		{"Neg", most, api.Span{}, point(-limit), api.OK},
		{"Scale", most, point(-api.One), point(-limit), api.OK},
		{"Scale", most, one, most, api.OK},
		{"Scale", most, point(api.One + 1), api.Span{}, api.ErrBig},
		{"Scale", low, api.Span{Lo: api.One, Hi: api.One + 1}, api.Span{}, api.ErrBig},
		{"Scale", point(1<<42 + 1), point(1<<42 - 1), api.Span{Lo: limit - 1, Hi: limit}, api.OK},
	} {
		for k := range 3 {
			b := at(k, x.b)
			if x.name == "Scale" {
				b = at(0, x.b)
			}
			named(t, x.name).same(t, at(k, x.a), b, at(k, x.want), x.e)
		}
	}
}

// P6.2, P6.3: each operation on the way may be the one whose result is beyond the limit, though the last result would not be.
func TestLimitsOnTheWay(t *testing.T) {
	large := point(1<<42 + 1) // its square is just beyond the limit, and that of 1024 is the limit
	for k := range 3 {
		named(t, "Dot").same(t, at(k, large), at(k, large), api.Vec{}, api.ErrBig)
		named(t, "Dot").same(t, at(k, large), at((k+1)%3, large), api.Vec{}, api.OK)
		named(t, "Norm").same(t, at(k, large), api.Vec{}, api.Vec{}, api.ErrBig)
		named(t, "Norm").same(t, at(k, point(-1<<42)), api.Vec{}, whole(1024, 0, 0), api.OK)
		named(t, "Unit").same(t, at(k, large), api.Vec{}, api.Vec{}, api.ErrBig)
		wide := api.Span{Lo: 1 << 16, Hi: 1 << 42} // from its own norm on, which may be its least number
		named(t, "Unit").same(t, at(k, wide), api.Vec{}, api.Vec{}, api.ErrBig)
		i, j := (k+1)%3, (k+2)%3
		named(t, "Cross").same(t, at(i, large), at(j, large), api.Vec{}, api.ErrBig)
		named(t, "Cross").same(t, at(j, large), at(i, large), api.Vec{}, api.ErrBig)
		named(t, "Cross").same(t, at(k, large), at(k, large), api.Vec{}, api.OK)
		var a, b api.Vec
		a[i], a[j], b[i], b[j] = point(1<<42), point(1<<42), point(-1<<42), point(1<<42)
		named(t, "Cross").same(t, a, b, api.Vec{}, api.ErrBig) // a product less its negative
	}
	for _, x := range []struct {
		name       string
		a, b, want api.Vec
		e          api.Errno
	}{
		{"Dot", whole(1024, 1, 0), whole(1024, 1, 0), api.Vec{}, api.ErrBig},
		{"Dot", whole(1024, 0, 1), whole(1024, 0, 1), api.Vec{}, api.ErrBig},
		{"Dot", whole(1024, 1, -1024), whole(1024, 1, 1024), api.Vec{}, api.ErrBig},
		{"Dot", whole(1024, -1, -1024), whole(1024, 1, 1024), whole(-1, 0, 0), api.OK},
		{"Dot", whole(1024, -1024, 1), whole(1024, 1024, 1), whole(1, 0, 0), api.OK},
		{"Dot", whole(1, 1024, -1024), whole(1, 1024, 1024), api.Vec{}, api.ErrBig},
		{"Norm", whole(1024, 1, 0), api.Vec{}, api.Vec{}, api.ErrBig},
		{"Norm", whole(1024, 0, 1), api.Vec{}, api.Vec{}, api.ErrBig},
		{"Norm", whole(0, 1024, 1), api.Vec{}, api.Vec{}, api.ErrBig},
		{"Unit", whole(1024, 1, 0), api.Vec{}, api.Vec{}, api.ErrBig},
		{"Unit", whole(0, 1024, 1), api.Vec{}, api.Vec{}, api.ErrBig},
		{"Unit", whole(1024, 0, 0), api.Vec{}, whole(1, 0, 0), api.OK},
	} {
		named(t, x.name).same(t, x.a, x.b, x.want, x.e)
	}
}

// P6.3: norms that contain 0 have ErrZero, but an error in the norm comes first.
func TestZeroNorms(t *testing.T) {
	for k := range 3 {
		for _, x := range []struct {
			s api.Span
			e api.Errno
		}{
			{api.Span{Lo: -1 << 42, Hi: 1 << 42}, api.ErrZero},
			{api.Span{Lo: 0, Hi: 1}, api.ErrZero},
			{api.Span{Lo: -api.One, Hi: 0}, api.ErrZero},
			{point(1), api.ErrZero}, // its square is rounded down to 0
			{point(1<<16 - 1), api.ErrZero},
			{point(1 - 1<<16), api.ErrZero},
			{point(1 << 16), api.OK},
			{point(-1 << 16), api.OK},
			{api.Span{Lo: 0, Hi: 1<<42 + 1}, api.ErrBig},
			{api.Span{Lo: -api.MaxFix, Hi: api.MaxFix}, api.ErrBig},
		} {
			a := at(k, x.s)
			want := api.Vec{}
			if x.e == api.OK {
				want = at(k, point(x.s.Lo<<16))
			}
			named(t, "Unit").same(t, a, api.Vec{}, want, x.e)
		}
	}
}

// P6.2, P6.3: results are rounded at each operation, and squares are not products.
func TestRounding(t *testing.T) {
	tiny := api.Vec{point(1), point(1), point(1)}
	mixed := api.Span{Lo: -api.One, Hi: 2 * api.One}
	third := api.Span{Lo: 1431655765, Hi: 1431655766}
	for _, x := range []struct {
		name       string
		a, b, want api.Vec
	}{
		{"Dot", tiny, tiny, api.Vec{{Lo: 0, Hi: 3}}},
		{"Cross", tiny, tiny, api.Vec{{Lo: -1, Hi: 1}, {Lo: -1, Hi: 1}, {Lo: -1, Hi: 1}}},
		{"Norm", tiny, api.Vec{}, api.Vec{{Lo: 0, Hi: 113512}}},
		{"Norm", at(1, mixed), api.Vec{}, api.Vec{{Lo: 0, Hi: 2 * api.One}}},
		{"Dot", at(1, mixed), at(1, mixed), api.Vec{{Lo: -2 * api.One, Hi: 4 * api.One}}},
		{"Unit", whole(1, 2, -2), api.Vec{}, api.Vec{third, {Lo: 2863311530, Hi: 2863311531}, {Lo: -2863311531, Hi: -2863311530}}},
		{"Unit", at(2, api.Span{Lo: api.One, Hi: 2 * api.One}), api.Vec{}, at(2, api.Span{Lo: api.One / 2, Hi: 2 * api.One})},
		{"Scale", whole(1, -1, 6), at(0, third), api.Vec{third, {Lo: -third.Hi, Hi: -third.Lo}, {Lo: 6 * third.Lo, Hi: 6 * third.Hi}}},
	} {
		named(t, x.name).same(t, x.a, x.b, x.want, api.OK)
	}
}
