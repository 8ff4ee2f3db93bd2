package fix_test

import (
	"math"
	"math/big"
	"testing"

	"monocle/api"
	"monocle/fix"
)

// P1.1: Check accepts just the numbers from -MaxFix to MaxFix.
func TestCheck(t *testing.T) {
	for _, a := range []int{0, 1, -1, api.One, api.MaxFix - 1, api.MaxFix, 1 - api.MaxFix, -api.MaxFix} {
		if e := fix.Check(a); e != api.OK {
			t.Errorf("Check(%d): error %d", a, e)
		}
	}
	for _, a := range []int{api.MaxFix + 1, -api.MaxFix - 1, 1 << 53, -1 << 53, math.MaxInt, math.MinInt} {
		if e := fix.Check(a); e != api.ErrArg {
			t.Errorf("Check(%d): error %d", a, e)
		}
	}
}

// P1.1: sums, differences and negatives are exact.
func TestAddSubNeg(t *testing.T) {
	compareTwo(t, "Add", fix.Add, func(a, b int) (int, api.Errno) {
		return fixed(new(big.Int).Add(whole(a), whole(b)))
	})
	compareTwo(t, "Sub", fix.Sub, func(a, b int) (int, api.Errno) {
		return fixed(new(big.Int).Sub(whole(a), whole(b)))
	})
	compareOne(t, "Neg", fix.Neg, func(a int) (int, api.Errno) {
		return fixed(new(big.Int).Neg(whole(a)))
	})
}

// P1.2: products.
func TestMul(t *testing.T) {
	product := func(to side) two {
		return func(a, b int) (int, api.Errno) {
			return rounded(times(a, b), whole(api.One), to)
		}
	}
	compareTwo(t, "MulDown", fix.MulDown, product(below))
	compareTwo(t, "MulUp", fix.MulUp, product(above))
}

// P1.3: quotients, and divisions by 0.
func TestDiv(t *testing.T) {
	quotient := func(to side) two {
		return func(a, b int) (int, api.Errno) {
			if b == 0 {
				return 0, api.ErrZero
			}
			return rounded(times(a, api.One), whole(b), to)
		}
	}
	compareTwo(t, "DivDown", fix.DivDown, quotient(below))
	compareTwo(t, "DivUp", fix.DivUp, quotient(above))
}

// P1.4: roots, of negative numbers too.
func TestSqrt(t *testing.T) {
	root := func(to side) one {
		return func(a int) (int, api.Errno) {
			if a < 0 {
				return 0, api.ErrArg
			}
			square := times(a, api.One)
			r := new(big.Int).Sqrt(square)
			if to == above && new(big.Int).Mul(r, r).Cmp(square) < 0 {
				r.Add(r, whole(1))
			}
			return fixed(r)
		}
	}
	compareOne(t, "SqrtDown", fix.SqrtDown, root(below))
	compareOne(t, "SqrtUp", fix.SqrtUp, root(above))
}

// P1.4: the root of a square is exact, and its neighbours have other roots.
func TestSqrtOfSquares(t *testing.T) {
	for _, r := range []int{0, 1 << 16, 3 << 16, 5 << 20, api.One, 1000 << 32, 1<<42 - 1<<16, 1 << 42} {
		square := r >> 16 * (r >> 16)
		down, e := fix.SqrtDown(square)
		up, f := fix.SqrtUp(square)
		if down != r || up != r || e != api.OK || f != api.OK {
			t.Errorf("roots of %d: %d, %d, errors %d, %d", square, down, up, e, f)
		}
		if r == 0 {
			continue
		}
		if down, e := fix.SqrtDown(square - 1); down >= r || e != api.OK {
			t.Errorf("SqrtDown(%d): %d, error %d", square-1, down, e)
		}
		if square == api.MaxFix {
			continue
		}
		if up, e := fix.SqrtUp(square + 1); up <= r || e != api.OK {
			t.Errorf("SqrtUp(%d): %d, error %d", square+1, up, e)
		}
	}
}

func testScale(t *testing.T, name string, of three, to side) {
	compare := func(a, n, d int) {
		t.Helper()
		m, e := of(a, n, d)
		want, f := 0, api.ErrArg
		if valid(a) && -maxFactor <= n && n <= maxFactor && 1 <= d && d <= maxFactor {
			want, f = rounded(times(a, n), whole(d), to)
		}
		same(t, name, []int{a, n, d}, m, e, want, f)
	}
	for _, a := range edges() {
		for _, n := range edges() {
			for _, d := range edges() {
				compare(a, n, d)
			}
		}
	}
	ns, ds := ints(2, 20000), ints(3, 20000)
	for i, a := range fixes(1, 20000) {
		compare(a, ns[i], ds[i])
	}
}

// P1.5: scaled numbers, with n and d at and beyond their limits.
func TestScale(t *testing.T) {
	testScale(t, "ScaleDown", fix.ScaleDown, below)
	testScale(t, "ScaleUp", fix.ScaleUp, above)
}

// compareDec tests FromDec for digits at and beyond their limits.
func compareDec(t *testing.T, n int) {
	t.Helper()
	for _, digits := range []int{math.MinInt, -1, 0, 1, 2, 3, 4, 5, 6, 7, 8, 9, 10, 11, 12, 13, 14, math.MaxInt} {
		down, up, e := fix.FromDec(n, digits)
		wantDown, wantUp, wantE := 0, 0, api.ErrArg
		if 0 <= digits && digits <= 12 {
			ten := new(big.Int).Exp(whole(10), whole(digits), nil)
			var f, g api.Errno
			wantDown, f = rounded(times(n, api.One), ten, below)
			wantUp, g = rounded(times(n, api.One), ten, above)
			if wantE = max(f, g); wantE != api.OK { // each of them is OK or ErrBig
				wantDown, wantUp = 0, 0
			}
		}
		if down != wantDown || up != wantUp || e != wantE {
			t.Errorf("FromDec(%d, %d): %d, %d, error %d; want %d, %d, error %d", n, digits, down, up, e, wantDown, wantUp, wantE)
		}
	}
}

// P1.6: decimal numbers, for all powers of ten and any n.
func TestFromDec(t *testing.T) {
	limit := 1 << 20 // the number that MaxFix stands for
	for range 12 {
		limit *= 10
		for _, n := range []int{limit - 1, limit, limit + 1} {
			compareDec(t, n)
			compareDec(t, -n)
		}
	}
	for _, n := range append(edges(), ints(4, 5000)...) {
		compareDec(t, n)
	}
}

// P1.6: a number just beyond a limit has ErrBig, and no result, though one of its neighbours is a fixed-point number.
func TestFromDecAtLimit(t *testing.T) {
	limit := 1 << 20 * 1000000000000
	for _, x := range []struct {
		n, down, up int
		e           api.Errno
	}{
		{limit - 1, api.MaxFix - 1, api.MaxFix, api.OK},
		{limit, api.MaxFix, api.MaxFix, api.OK},
		{limit + 1, 0, 0, api.ErrBig},
		{1 - limit, -api.MaxFix, 1 - api.MaxFix, api.OK},
		{-limit, -api.MaxFix, -api.MaxFix, api.OK},
		{-limit - 1, 0, 0, api.ErrBig},
		{math.MaxInt, 0, 0, api.ErrBig},
		{math.MinInt, 0, 0, api.ErrBig},
	} {
		if down, up, e := fix.FromDec(x.n, 12); down != x.down || up != x.up || e != x.e {
			t.Errorf("FromDec(%d, 12): %d, %d, error %d", x.n, down, up, e)
		}
	}
}

// The results at -MaxFix and MaxFix: of the two neighbours of a number just beyond a limit one is ErrBig (P1.2, P1.3).
func TestLimits(t *testing.T) {
	const (
		limit = api.MaxFix
		p     = 1<<42 + 1<<21 // p * q is 2^84 + 2^21
		q     = 1<<42 - 1<<21 + 1
	)
	for _, x := range []struct {
		name       string
		of         two
		a, b, want int
		e          api.Errno
	}{
		{"Add", fix.Add, limit - 1, 1, limit, api.OK},
		{"Add", fix.Add, limit, 1, 0, api.ErrBig},
		{"Add", fix.Add, -limit, -1, 0, api.ErrBig},
		{"Sub", fix.Sub, 1 - limit, 1, -limit, api.OK},
		{"Sub", fix.Sub, limit, -1, 0, api.ErrBig},
		{"MulDown", fix.MulDown, p, q, limit, api.OK},
		{"MulUp", fix.MulUp, p, q, 0, api.ErrBig},
		{"MulDown", fix.MulDown, -p, q, 0, api.ErrBig},
		{"MulUp", fix.MulUp, p, -q, -limit, api.OK},
		{"MulDown", fix.MulDown, -limit, -api.One, limit, api.OK},
		{"MulUp", fix.MulUp, limit, -api.One, -limit, api.OK},
		{"MulDown", fix.MulDown, 1<<42 + 1, 1<<42 - 1, limit - 1, api.OK},
		{"MulUp", fix.MulUp, 1<<42 + 1, 1<<42 - 1, limit, api.OK},
		{"DivDown", fix.DivDown, limit, api.One, limit, api.OK},
		{"DivUp", fix.DivUp, limit, -api.One, -limit, api.OK},
		{"DivDown", fix.DivDown, limit, api.One - 1, 0, api.ErrBig},
		{"DivUp", fix.DivUp, limit, 1 - api.One, 0, api.ErrBig},
		{"DivUp", fix.DivUp, limit, 1, 0, api.ErrBig},
	} {
		n, e := x.of(x.a, x.b)
		same(t, x.name, []int{x.a, x.b}, n, e, x.want, x.e)
	}
}

// The same for scaled numbers (P1.5).
func TestScaleAtLimits(t *testing.T) {
	const limit = api.MaxFix
	for _, x := range []struct {
		name          string
		of            three
		a, n, d, want int
		e             api.Errno
	}{
		{"ScaleDown", fix.ScaleDown, limit, maxFactor, maxFactor - 1, limit, api.OK},
		{"ScaleUp", fix.ScaleUp, limit, maxFactor, maxFactor - 1, 0, api.ErrBig},
		{"ScaleDown", fix.ScaleDown, limit, -maxFactor, maxFactor - 1, 0, api.ErrBig},
		{"ScaleUp", fix.ScaleUp, -limit, maxFactor, maxFactor - 1, -limit, api.OK},
		{"ScaleUp", fix.ScaleUp, -limit, -maxFactor, maxFactor, limit, api.OK},
		{"ScaleDown", fix.ScaleDown, 1, 1, maxFactor, 0, api.OK},
		{"ScaleUp", fix.ScaleUp, 1, 1, maxFactor, 1, api.OK},
		{"ScaleDown", fix.ScaleDown, -1, 1, maxFactor, -1, api.OK},
		{"ScaleUp", fix.ScaleUp, 1, -1, maxFactor, 0, api.OK},
		{"ScaleDown", fix.ScaleDown, limit, maxFactor, 1, 0, api.ErrBig},
		{"ScaleUp", fix.ScaleUp, limit, -maxFactor, 1, 0, api.ErrBig},
		{"ScaleDown", fix.ScaleDown, 0, maxFactor, 1, 0, api.OK},
	} {
		n, e := x.of(x.a, x.n, x.d)
		same(t, x.name, []int{x.a, x.n, x.d}, n, e, x.want, x.e)
	}
}
