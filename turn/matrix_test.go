package turn_test

import (
	"math"
	"math/rand/v2"
	"testing"

	"monocle/api"
	"monocle/turn"
)

// places calls of for all places of a matrix.
func places(of func(i, j int)) {
	for k := range 9 {
		of(k/3, k%3)
	}
}

// top returns a matrix of numbers at the limit, of which no product is within it.
func top() api.Rot {
	v := api.Vec{point(api.MaxFix), point(-api.MaxFix), point(api.MaxFix)}
	return api.Rot{v, v, v}
}

// P7.2: Check accepts just the valid matrices.
func TestCheck(t *testing.T) {
	source := rand.New(rand.NewPCG(3, 7))
	for _, r := range []api.Rot{{}, diagonal(), top(), matrix(source, 52), matrix(source, 33)} {
		if e := turn.Check(r); e != api.OK {
			t.Errorf("Check(%v): error %d", r, e)
		}
		places(func(i, j int) {
			for _, s := range invalid() {
				wrong := r
				wrong[i][j] = s
				if e := turn.Check(wrong); e != api.ErrSpan {
					t.Errorf("Check(%v): error %d", wrong, e)
				}
			}
		})
	}
	for _, s := range invalid() {
		v := api.Vec{s, s, s}
		if e := turn.Check(api.Rot{v, v, v}); e != api.ErrSpan {
			t.Errorf("Check of %v alone: error %d", s, e)
		}
	}
}

// P7.2: each angle is from -MaxDegrees to MaxDegrees.
func TestLimitsOfAngles(t *testing.T) {
	for _, angle := range []int{math.MinInt, -2 * api.MaxDegrees, -api.MaxDegrees - 1, api.MaxDegrees + 1, math.MaxInt} {
		for k := range 3 {
			for _, others := range []int{0, 1000, angle} {
				a := [3]int{others, others, others}
				a[k] = angle
				if r, e := turn.Rotation(a[0], a[1], a[2]); r != (api.Rot{}) || e != api.ErrArg {
					t.Errorf("Rotation of %v: %v, error %d", a, r, e)
				}
			}
		}
	}
	for _, angle := range []int{-api.MaxDegrees, api.MaxDegrees} { // full turns
		for k := range 3 {
			var a [3]int
			a[k] = angle
			if r, e := turn.Rotation(a[0], a[1], a[2]); r != diagonal() || e != api.OK {
				t.Errorf("Rotation of %v: %v, error %d", a, r, e)
			}
		}
	}
}

// P7.2: rotations are the products of the matrices about the axes, which the chapter writes out.
func TestRotations(t *testing.T) {
	source := rand.New(rand.NewPCG(4, 7))
	for i := range 2000 {
		a := [3]int{degrees(source), degrees(source), degrees(source)}
		for k := range a {
			if i%4 > 1 && i%3 != k { // also those about one axis, or about two
				a[k] *= i % 2
			}
		}
		x, y, z := wantAxes(t, a[0], a[1], a[2])
		yx, _ := wantTimes(y, x)
		want, wantE := wantTimes(z, yx)
		if r, e := turn.Rotation(a[0], a[1], a[2]); r != want || e != wantE || e != api.OK {
			t.Errorf("Rotation of %v: %v, error %d; want %v, error %d", a, r, e, want, wantE)
		}
	}
}

// P7.2, P7.3: products and turned vectors for numbers of all sizes and both signs, with and without results beyond the limit.
func TestProducts(t *testing.T) {
	source := rand.New(rand.NewPCG(5, 7))
	counts := map[api.Errno]int{}
	for range 10000 {
		most := 30 + source.IntN(23)
		a, b, v := matrix(source, most), matrix(source, most), vector(source, most)
		want, wantE := wantTimes(a, b)
		counts[wantE]++
		if r, e := turn.Times(a, b); r != want || e != wantE {
			t.Errorf("Times(%v, %v): %v, error %d; want %v, error %d", a, b, r, e, want, wantE)
		}
		turned, wantE := wantTurn(a, v)
		counts[wantE]++
		if r, e := turn.Turn(a, v); r != turned || e != wantE {
			t.Errorf("Turn(%v, %v): %v, error %d; want %v, error %d", a, v, r, e, turned, wantE)
		}
		back, wantE := wantBack(a, v)
		counts[wantE]++
		if r, e := turn.Back(a, v); r != back || e != wantE {
			t.Errorf("Back(%v, %v): %v, error %d; want %v, error %d", a, v, r, e, back, wantE)
		}
	}
	if counts[api.OK] < 3000 || counts[api.ErrBig] < 3000 || len(counts) > 2 {
		t.Errorf("errors: %v", counts)
	}
}

// P7.2: products with the matrix that changes nothing, for numbers up to the limit; a matrix that is nearly that one changes something.
func TestUnturned(t *testing.T) {
	source := rand.New(rand.NewPCG(6, 7))
	for _, r := range []api.Rot{{}, diagonal(), top(), matrix(source, 52), matrix(source, 33)} {
		for _, p := range [][2]api.Rot{{diagonal(), r}, {r, diagonal()}} {
			if got, e := turn.Times(p[0], p[1]); got != r || e != api.OK {
				t.Errorf("Times(%v, %v): %v, error %d", p[0], p[1], got, e)
			}
		}
	}
	places(func(i, j int) {
		near := diagonal()
		near[i][j].Hi++
		r := matrix(source, 40)
		for _, p := range [][2]api.Rot{{near, r}, {r, near}} {
			want, _ := wantTimes(p[0], p[1])
			if got, e := turn.Times(p[0], p[1]); got != want || e != api.OK || got == r {
				t.Errorf("Times(%v, %v): %v, error %d; want %v", p[0], p[1], got, e, want)
			}
		}
	})
}

// P7.2, P7.3: an invalid interval at any place has ErrSpan, though there are results beyond the limit.
func TestInvalid(t *testing.T) {
	check := func(name string, zero bool, e api.Errno) {
		t.Helper()
		if !zero || e != api.ErrSpan {
			t.Errorf("%s: error %d, or a result", name, e)
		}
	}
	for _, s := range invalid() {
		for _, other := range []api.Rot{{}, diagonal(), top()} {
			places(func(i, j int) {
				wrong := other
				wrong[i][j] = s
				for _, p := range [][2]api.Rot{{wrong, other}, {other, wrong}, {wrong, diagonal()}, {diagonal(), wrong}, {wrong, wrong}} {
					r, e := turn.Times(p[0], p[1])
					check("Times", r == api.Rot{}, e)
				}
				v, e := turn.Turn(wrong, other[0])
				check("Turn", v == api.Vec{}, e)
				v, e = turn.Back(wrong, other[0])
				check("Back", v == api.Vec{}, e)
				v, e = turn.Turn(other, wrong[i])
				check("Turn", v == api.Vec{}, e)
				v, e = turn.Back(other, wrong[i])
				check("Back", v == api.Vec{}, e)
			})
		}
	}
}

// with returns the matrix with the interval s at one place, and 0 at all others.
func with(i, j int, s api.Span) api.Rot {
	var r api.Rot
	r[i][j] = s
	return r
}

// P7.2, P7.3: a result at any place may be the only one beyond the limit, and any product may be what puts it there.
func TestLimitsOfResults(t *testing.T) {
	large, limit := point(1<<42+1), point(1<<42) // the square of the second one is the limit
	places(func(i, k int) {
		for j := range 3 {
			if r, e := turn.Times(with(i, k, large), with(k, j, large)); r != (api.Rot{}) || e != api.ErrBig {
				t.Errorf("Times with %d, %d and %d, %d: %v, error %d", i, k, k, j, r, e)
			}
			if r, e := turn.Times(with(i, k, limit), with(k, j, limit)); r != with(i, j, point(api.MaxFix)) || e != api.OK {
				t.Errorf("Times with %d, %d and %d, %d: %v, error %d", i, k, k, j, r, e)
			}
			if r, e := turn.Times(with(i, k, large), with((k+1)%3, j, large)); r != (api.Rot{}) || e != api.OK {
				t.Errorf("Times with %d, %d and %d, %d: %v, error %d", i, k, (k+1)%3, j, r, e)
			}
		}
		if v, e := turn.Turn(with(i, k, large), with(0, k, large)[0]); v != (api.Vec{}) || e != api.ErrBig {
			t.Errorf("Turn with %d, %d: %v, error %d", i, k, v, e)
		}
		if v, e := turn.Turn(with(i, k, limit), with(0, k, limit)[0]); v != with(0, i, point(api.MaxFix))[0] || e != api.OK {
			t.Errorf("Turn with %d, %d: %v, error %d", i, k, v, e)
		}
		if v, e := turn.Back(with(i, k, large), with(0, i, large)[0]); v != (api.Vec{}) || e != api.ErrBig {
			t.Errorf("Back with %d, %d: %v, error %d", i, k, v, e)
		}
		if v, e := turn.Back(with(i, k, limit), with(0, i, limit)[0]); v != with(0, k, point(api.MaxFix))[0] || e != api.OK {
			t.Errorf("Back with %d, %d: %v, error %d", i, k, v, e)
		}
	})
}

// P7.2, P7.3: a sum on the way may be beyond the limit, though the last one is not; the order of a sum decides that.
func TestLimitsOnTheWay(t *testing.T) {
	v := whole(1024, 1, 1024)
	for k := range 3 {
		for row, e := range map[api.Vec]api.Errno{whole(1024, 1, -1024): api.ErrBig, whole(-1024, -1, 1024): api.ErrBig, whole(1024, -1, -1024): api.OK} {
			var r, across api.Rot
			r[k] = row
			for i, s := range row {
				across[i][k] = s
			}
			if _, got := turn.Turn(r, v); got != e {
				t.Errorf("Turn(%v, %v): error %d", r, v, got)
			}
			if _, got := turn.Back(across, v); got != e {
				t.Errorf("Back(%v, %v): error %d", across, v, got)
			}
			if _, got := turn.Times(r, api.Rot{{v[0]}, {v[1]}, {v[2]}}); got != e {
				t.Errorf("Times(%v, %v): error %d", r, v, got)
			}
			if _, got := turn.Times(api.Rot{v}, across); got != e {
				t.Errorf("Times(%v, %v): error %d", v, across, got)
			}
		}
	}
}
