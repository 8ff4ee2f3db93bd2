package quot_test

import (
	"math"
	"math/big"
	"math/rand/v2"
	"testing"

	"monocle/api"
	"monocle/quot"
)

const (
	maxScale = 1000000000000
	maxNear  = 1 << 62
)

// around returns fractions that are x, or differ from it by as little as a denominator of at most the given number of digits lets them.
func around(source *rand.Rand, x *big.Rat, digits int) []sample {
	d := natural(source, digits)
	n := floor(new(big.Rat).Mul(x, whole(d)))
	next := new(big.Int).Add(n, big.NewInt(1))
	return fit(x, ratio(n, d), ratio(next, d))
}

// wantSpan returns what Span should return, but for ErrQuot.
func wantSpan(x *big.Rat) (api.Span, api.Errno) {
	x = new(big.Rat).Mul(x, big.NewRat(api.One, 1))
	down := floor(x)
	up := floor(x.Neg(x))
	up.Neg(up)
	limit := big.NewInt(api.MaxFix)
	if down.CmpAbs(limit) > 0 || up.CmpAbs(limit) > 0 {
		return api.Span{}, api.ErrBig
	}
	return api.Span{Lo: int(down.Int64()), Hi: int(up.Int64())}, api.OK
}

// wantNear does the same for Near.
func wantNear(x *big.Rat, scale int) (int, api.Errno) {
	if scale < 1 || scale > maxScale {
		return 0, api.ErrArg
	}
	x = new(big.Rat).Mul(x, big.NewRat(int64(scale), 1))
	n := floor(x.Add(x, big.NewRat(1, 2)))
	if n.CmpAbs(big.NewInt(maxNear)) > 0 {
		return 0, api.ErrBig
	}
	return int(n.Int64()), api.OK
}

// expectSpan tests Span for a.
func expectSpan(t *testing.T, a sample) {
	t.Helper()
	kept, intact := fenced(a.Quot)
	want, f := wantSpan(a.x)
	if s, e := quot.Span(kept); s != want || e != f || !intact() {
		t.Errorf("Span(%v): %v, error %d; want %v, error %d", a.x, s, e, want, f)
	}
}

// expectNear tests Near for a.
func expectNear(t *testing.T, a sample, scale int) {
	t.Helper()
	kept, intact := fenced(a.Quot)
	want, f := wantNear(a.x, scale)
	if n, e := quot.Near(kept, scale); n != want || e != f || !intact() {
		t.Errorf("Near(%v, %d): %d, error %d; want %d, error %d", a.x, scale, n, e, want, f)
	}
}

// P4.4: the intervals of fractions of all lengths, of fixed-point numbers and of their neighbours, also at the limit.
func TestSpan(t *testing.T) {
	source := rand.New(rand.NewPCG(9, 9))
	for _, a := range append(edges(), fractions(9, 500)...) {
		expectSpan(t, a)
	}
	list := []int64{0, 1, -1, api.One, api.MaxFix, -api.MaxFix, api.MaxFix - 1, 1 - api.MaxFix, api.MaxFix + 1, -api.MaxFix - 1, 1 << 62, math.MaxInt64, math.MinInt64}
	for range 150 {
		list = append(list, source.Int64N(2*api.MaxFix+1)-api.MaxFix, source.Int64()>>source.IntN(64))
	}
	for _, v := range list {
		for _, digits := range []int{1, 3, 4, 30, api.MaxLimbs} {
			for _, a := range around(source, big.NewRat(v, api.One), digits) {
				expectSpan(t, a)
			}
		}
	}
}

// P4.4: rounding to the nearest integer for all scales, also next to halves and at the limit.
func TestNear(t *testing.T) {
	source := rand.New(rand.NewPCG(10, 10))
	scales := []int{1, 2, 3, 10, 1000, 1000000, 999999999, 1000000000, maxScale - 1, maxScale}
	for _, scale := range scales {
		for _, a := range append(edges(), fractions(uint64(scale), 100)...) {
			expectNear(t, a, scale)
		}
	}
	list := []int64{0, 1, -1, 2, -2, maxNear, -maxNear, maxNear - 1, 1 - maxNear, math.MaxInt64, math.MinInt64}
	for range 60 {
		list = append(list, source.Int64()>>source.IntN(64))
	}
	for _, n := range list {
		for _, more := range []int64{-1, 0, 1} { // halves
			scale := scales[source.IntN(len(scales))]
			x := new(big.Rat).Add(big.NewRat(n, 1), big.NewRat(more, 2))
			x.Quo(x, big.NewRat(int64(scale), 1))
			for _, digits := range []int{1, 3, 4, 30, api.MaxLimbs} {
				for _, a := range around(source, x, digits) {
					expectNear(t, a, scale)
				}
			}
		}
	}
}

// P4.4: denominators of 597 to 600 digits, with which numerators may get too long on the way.
func TestLongDenominators(t *testing.T) {
	t.Parallel()
	source := rand.New(rand.NewPCG(11, 11))
	for i := range 400 {
		d := natural(source, 1)
		d.Mul(d, tens(api.MaxLimbs-2-i%3, 0)).Add(d, natural(source, 597))
		if i%10 == 0 {
			d = tens(api.MaxLimbs, int64(-1-i%7))
		}
		scale := 1 + source.Int64N(maxScale)
		if i%4 == 0 {
			scale = 2
		}
		for _, m := range []int64{api.One, scale} {
			k := source.Int64N(2*m) - m
			for _, half := range []int64{0, 1} {
				x := new(big.Rat).Add(big.NewRat(k, 1), big.NewRat(half, 2))
				n := floor(x.Mul(x, ratio(d, big.NewInt(m))))
				for more := range int64(3) {
					near := ratio(new(big.Int).Add(n, big.NewInt(more-1)), d)
					for _, a := range fit(near) {
						expectSpan(t, a)
						expectNear(t, a, int(scale))
					}
				}
			}
		}
	}
}

// P4.4: scales out of their range have ErrArg, also for fractions with ErrBig.
func TestScales(t *testing.T) {
	for _, scale := range []int{0, -1, math.MinInt, maxScale + 1, math.MaxInt} {
		for _, a := range edges() {
			expectNear(t, a, scale)
		}
	}
}
