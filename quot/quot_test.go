package quot_test

import (
	"math"
	"math/big"
	"math/rand/v2"
	"slices"
	"testing"

	"monocle/api"
	"monocle/long"
	"monocle/quot"
)

type (
	one = func(a api.Quot) (api.Quot, api.Errno)
	two = func(a, b api.Quot) (api.Quot, api.Errno)
)

// fenced returns a copy of a, whose digits have unused capacity, and a function that tells whether all of that memory is as it was.
func fenced(a api.Quot) (api.Quot, func() bool) {
	const fence = 77
	memory := slices.Concat(a.N.Digits, []int{fence, fence}, a.D.Digits, []int{fence, fence})
	before := slices.Clone(memory)
	n, d := len(a.N.Digits), len(a.D.Digits)
	parts := api.Quot{
		N: api.Long{Neg: a.N.Neg, Digits: memory[: n : n+2]},
		D: api.Long{Neg: a.D.Neg, Digits: memory[n+2 : n+2+d]},
	}
	return parts, func() bool { return slices.Equal(memory, before) }
}

// overwrite writes to all memory of long integers, as the owner of a result may.
func overwrite(list ...api.Long) {
	for _, a := range list {
		memory := a.Digits[:cap(a.Digits)]
		for i := range memory {
			memory[i] = -5
		}
	}
}

// P4.1: Check accepts just the valid fractions.
func TestCheck(t *testing.T) {
	for _, a := range append(edges(), fractions(4, 500)...) {
		if e := quot.Check(a.Quot); e != api.OK {
			t.Errorf("Check(%v): error %d", a.x, e)
		}
	}
	for _, a := range invalid() {
		if e := quot.Check(a); e != api.ErrQuot {
			t.Errorf("Check(%v): error %d", a, e)
		}
	}
	empty := api.Quot{N: api.Long{Digits: []int{}}, D: long.Of(1)}
	if e := quot.Check(empty); e != api.OK {
		t.Errorf("Check of 0 with an empty list: error %d", e)
	}
}

// P4.1: Make reduces fractions of long integers of both signs.
func TestMake(t *testing.T) {
	source := rand.New(rand.NewPCG(5, 5))
	for i := range 1000 {
		size := []int{1, 2, 3, 20, 300}[i%5]
		n, d, factor := natural(source, size), natural(source, size), natural(source, size)
		n.Mul(n, factor).Mul(n, big.NewInt(int64(i%3-1)))
		d.Mul(d, factor).Mul(d, big.NewInt(int64(i%2*2-1)))
		top, _ := long.Parse(n.String())
		bottom, _ := long.Parse(d.String())
		kept, intact := fenced(api.Quot{N: top, D: bottom})
		want, _ := limited(ratio(n, d))
		r, e := quot.Make(kept.N, kept.D)
		expect(t, "Make", []api.Long{top, bottom}, r, e, want, api.OK)
		overwrite(r.N, r.D)
		if !intact() {
			t.Errorf("Make(%v, %v): an argument is changed, or shared with the result", n, d)
		}
	}
}

// P4.1: the errors of Make: those of Check, and then ErrZero.
func TestMakeErrors(t *testing.T) {
	wrong := []api.Long{{Neg: true}, {Digits: []int{0}}, {Digits: slices.Repeat([]int{1}, api.MaxLimbs+1)}}
	good := []api.Long{{}, long.Of(1), long.Of(-7), {Digits: slices.Repeat([]int{1}, api.MaxLimbs)}}
	for _, a := range good {
		for _, b := range wrong {
			r, e := quot.Make(a, b)
			expect(t, "Make", []api.Long{a, b}, r, e, api.Quot{}, api.ErrDigits)
			r, e = quot.Make(b, a)
			expect(t, "Make", []api.Long{b, a}, r, e, api.Quot{}, api.ErrDigits)
		}
		for _, zero := range []api.Long{{}, {Digits: []int{}}} {
			r, e := quot.Make(a, zero)
			expect(t, "Make", []api.Long{a, zero}, r, e, api.Quot{}, api.ErrZero)
		}
	}
}

// P4.1: Of, for all int.
func TestOf(t *testing.T) {
	list := []int{0, 1, -1, 2, -2, 6, -4, 1000000000, -999999999, 1 << 62, -1 << 62, math.MaxInt, math.MinInt, math.MinInt + 1}
	for _, n := range list {
		for _, d := range list {
			want, wantE := api.Quot{}, api.ErrZero
			if d != 0 {
				want, wantE = limited(ratio(big.NewInt(int64(n)), big.NewInt(int64(d))))
			}
			r, e := quot.Of(n, d)
			expect(t, "Of", []int{n, d}, r, e, want, wantE)
		}
	}
}

// P4.1: Same compares the parts, of valid and of other fractions; no digits are the same as an empty list (R4).
func TestSame(t *testing.T) {
	list := invalid()
	for _, a := range edges() {
		list = append(list, a.Quot)
	}
	for _, a := range list {
		for _, b := range list {
			if is := quot.Same(a, b); is != alike(a, b) {
				t.Errorf("Same(%v, %v): %t", a, b, is)
			}
		}
		if twin, _ := fenced(a); !quot.Same(a, twin) {
			t.Errorf("%v is not the same as its twin", a)
		}
	}
	if !quot.Same(api.Quot{D: long.Of(1)}, api.Quot{N: api.Long{Digits: []int{}}, D: long.Of(1)}) {
		t.Errorf("no digits are not the same as an empty list")
	}
	if !quot.Same(api.Quot{}, api.Quot{}) || quot.Same(api.Quot{}, api.Quot{N: api.Long{Neg: true}}) || quot.Same(api.Quot{}, api.Quot{D: api.Long{Neg: true}}) {
		t.Errorf("Same of fractions without digits")
	}
}

// P4.2: Cmp orders all fractions, whatever the length of their products.
func TestCmp(t *testing.T) {
	t.Parallel()
	for _, p := range pairs() {
		a, intactA := fenced(p[0].Quot)
		b, intactB := fenced(p[1].Quot)
		want := p[0].x.Cmp(p[1].x)
		if c, e := quot.Cmp(a, b); c != want || e != api.OK {
			t.Errorf("Cmp(%v, %v): %d, error %d; want %d", p[0].x, p[1].x, c, e, want)
		}
		if !intactA() || !intactB() {
			t.Errorf("Cmp(%v, %v): an argument is changed", p[0].x, p[1].x)
		}
	}
}

// P4.2: Cmp of fractions that differ as little as they can, and take the most steps: quotients of Fibonacci numbers that follow each other.
func TestCmpOfNeighbours(t *testing.T) {
	for _, digits := range []int{1, 2, 10, 100, api.MaxLimbs} {
		limit := tens(digits, 0)
		x, y, z := big.NewInt(1), big.NewInt(1), big.NewInt(2)
		for {
			next := new(big.Int).Add(y, z)
			if next.Cmp(limit) >= 0 {
				break
			}
			x, y, z = y, z, next
		}
		list := fit(ratio(x, y), ratio(y, z))
		for _, a := range list {
			for _, b := range list {
				want := a.x.Cmp(b.x)
				if c, e := quot.Cmp(a.Quot, b.Quot); c != want || e != api.OK {
					t.Errorf("Cmp of neighbours of %d digits: %d, error %d; want %d", digits, c, e, want)
				}
			}
		}
	}
}

// P4.2, P4.5: Sign, Floor and Text.
func TestSignFloorText(t *testing.T) {
	for _, a := range append(edges(), fractions(6, 800)...) {
		kept, intact := fenced(a.Quot)
		if s, e := quot.Sign(kept); s != a.x.Sign() || e != api.OK {
			t.Errorf("Sign(%v): %d, error %d", a.x, s, e)
		}
		text := a.x.RatString()
		if s, e := quot.Text(kept); s != text || e != api.OK {
			t.Errorf("Text(%v): %q, error %d; want %q", a.x, s, e, text)
		}
		n, e := quot.Floor(kept)
		expect(t, "Floor", a.x, api.Quot{N: n}, e, api.Quot{N: fit(whole(floor(a.x)))[0].N}, api.OK)
		overwrite(n)
		if !intact() {
			t.Errorf("Sign, Floor or Text of %v: the argument is changed, or shared", a.x)
		}
	}
}

// P4.3: sums, differences, products and quotients, with ErrBig just for results that are too long, and ErrZero.
func TestArithmetic(t *testing.T) {
	t.Parallel()
	operations := []struct {
		name string
		of   two
		want func(z, x, y *big.Rat) *big.Rat
	}{
		{"Add", quot.Add, (*big.Rat).Add},
		{"Sub", quot.Sub, (*big.Rat).Sub},
		{"Mul", quot.Mul, (*big.Rat).Mul},
		{"Div", quot.Div, (*big.Rat).Quo},
	}
	for _, p := range pairs() {
		a, intactA := fenced(p[0].Quot)
		b, intactB := fenced(p[1].Quot)
		for _, o := range operations {
			want, wantE := api.Quot{}, api.ErrZero
			if o.name != "Div" || p[1].x.Sign() != 0 {
				want, wantE = limited(o.want(new(big.Rat), p[0].x, p[1].x))
			}
			r, e := o.of(a, b)
			expect(t, o.name, []*big.Rat{p[0].x, p[1].x}, r, e, want, wantE)
			overwrite(r.N, r.D)
			if !intactA() || !intactB() {
				t.Fatalf("%s(%v, %v): an argument is changed, or shared with the result", o.name, p[0].x, p[1].x)
			}
		}
	}
}

// P4.3: the pairs above have numerators over a common denominator that are too long on the way, with sums of either kind.
func TestLongPairs(t *testing.T) {
	t.Parallel()
	var tooLong, fitting int
	limit := tens(api.MaxLimbs, 0)
	for _, p := range longPairs() {
		x, y := p[0].x, p[1].x
		common := new(big.Int).GCD(nil, nil, x.Denom(), y.Denom())
		n := new(big.Int).Mul(x.Num(), y.Denom())
		if n.Quo(n, common).CmpAbs(limit) < 0 {
			continue
		}
		if _, e := limited(new(big.Rat).Add(x, y)); e == api.OK {
			fitting++
		} else {
			tooLong++
		}
	}
	if tooLong < 30 || fitting < 60 {
		t.Errorf("of the sums on whose way a number is too long, %d fit and %d do not", fitting, tooLong)
	}
}

// P4.3: negatives and absolute values.
func TestNegAbs(t *testing.T) {
	for _, a := range append(edges(), fractions(7, 800)...) {
		kept, intact := fenced(a.Quot)
		for name, c := range map[string]struct {
			of   one
			want *big.Rat
		}{"Neg": {quot.Neg, new(big.Rat).Neg(a.x)}, "Abs": {quot.Abs, new(big.Rat).Abs(a.x)}} {
			r, e := c.of(kept)
			expect(t, name, a.x, r, e, fit(c.want)[0].Quot, api.OK)
			overwrite(r.N, r.D)
			if !intact() {
				t.Errorf("%s(%v): the argument is changed, or shared with the result", name, a.x)
			}
		}
	}
}

// P4.3: the parts of a product may have all 600 digits, but no more.
func TestProductsAtLimit(t *testing.T) {
	for n := 1; n < api.MaxLimbs; n += 13 {
		for more := range int64(3) {
			x, y := whole(tens(n, more-1)), whole(tens(api.MaxLimbs-n, 1-more))
			list := fit(x, y, new(big.Rat).Inv(x), new(big.Rat).Inv(y))
			for _, a := range list[:2] {
				for _, b := range list {
					want, f := limited(new(big.Rat).Mul(a.x, b.x))
					r, e := quot.Mul(a.Quot, b.Quot)
					expect(t, "Mul", []*big.Rat{a.x, b.x}, r, e, want, f)
					want, f = limited(new(big.Rat).Quo(a.x, b.x))
					r, e = quot.Div(a.Quot, b.Quot)
					expect(t, "Div", []*big.Rat{a.x, b.x}, r, e, want, f)
				}
			}
		}
	}
}
