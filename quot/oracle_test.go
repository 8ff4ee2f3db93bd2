package quot_test

import (
	"math/big"
	"math/rand/v2"
	"slices"
	"testing"

	"monocle/api"
	"monocle/long"
)

// mostDigits is the greatest number of decimal digits of a part.
const mostDigits = 9 * api.MaxLimbs

// limited returns the fraction x, or ErrBig if a part of it is too long.
func limited(x *big.Rat) (api.Quot, api.Errno) {
	n, e := long.Parse(x.Num().String())
	d, f := long.Parse(x.Denom().String())
	if e != api.OK || f != api.OK {
		return api.Quot{}, api.ErrBig
	}
	return api.Quot{N: n, D: d}, api.OK
}

// sample is a valid fraction with the number that it stands for.
type sample struct {
	api.Quot
	x *big.Rat
}

// fit returns those of the numbers that are fractions.
func fit(list ...*big.Rat) []sample {
	var samples []sample
	for _, x := range list {
		if a, e := limited(x); e == api.OK {
			samples = append(samples, sample{a, x})
		}
	}
	return samples
}

// whole returns the number n.
func whole(n *big.Int) *big.Rat {
	return new(big.Rat).SetInt(n)
}

// ratio returns the number n / d.
func ratio(n, d *big.Int) *big.Rat {
	return new(big.Rat).SetFrac(n, d)
}

// tens returns 10^(9n) + more.
func tens(n int, more int64) *big.Int {
	power := new(big.Int).Exp(big.NewInt(1000000000), big.NewInt(int64(n)), nil)
	return power.Add(power, big.NewInt(more))
}

// floor returns the greatest integer that is at most x.
func floor(x *big.Rat) *big.Int {
	return new(big.Int).Div(x.Num(), x.Denom()) // a denominator is positive
}

// edges returns fractions of both signs at which lengths, limits and signs change.
func edges() []sample {
	most := tens(api.MaxLimbs, -1)
	list := []*big.Rat{
		big.NewRat(1, 2), big.NewRat(2, 3), big.NewRat(7, 1000000000), big.NewRat(999999999, 1000000001),
		big.NewRat(1, 1<<32), big.NewRat(1, 1<<33), big.NewRat(1<<20, 1), big.NewRat(1<<53-1, 1<<33), big.NewRat(1<<53+1, 1<<33),
		big.NewRat(1<<62, 1), big.NewRat(1<<62-1, 2), big.NewRat(1<<62-1, 1<<62), ratio(most, tens(api.MaxLimbs, -2)),
		ratio(tens(599, 1), tens(599, 0)), ratio(tens(599, 0), tens(599, 1)),
	}
	for _, n := range []*big.Int{big.NewInt(1), big.NewInt(3), tens(1, 0), tens(2, 1), tens(300, 1), most} {
		list = append(list, whole(n), ratio(big.NewInt(1), n), ratio(n, big.NewInt(2)))
	}
	samples := fit(new(big.Rat))
	for _, x := range list {
		samples = append(samples, fit(x, new(big.Rat).Neg(x))...)
	}
	return samples
}

// natural returns a number of n digits to the base 10^9, or of n - 1, and at least 1. Some are next to a change of the length, and some have small divisors alone.
func natural(source *rand.Rand, n int) *big.Int {
	switch source.IntN(4) {
	case 0:
		return tens(n, -1-source.Int64N(9))
	case 1:
		return tens(n-1, source.Int64N(9))
	case 2:
		smooth := big.NewInt(1)
		for limit := tens(n-1, 0); smooth.Cmp(limit) < 0; {
			prime := big.NewInt([]int64{2, 3, 5, 7}[source.IntN(4)])
			smooth.Mul(smooth, prime.Exp(prime, big.NewInt(source.Int64N(9)), nil))
		}
		return smooth
	}
	text := []byte("1")
	for range 9*n - 1 {
		text = append(text, '0'+byte(source.IntN(10)))
	}
	random, _ := new(big.Int).SetString(string(text), 10)
	return random
}

// random returns a number of either sign whose parts have at most most digits to the base 10^9.
func random(source *rand.Rand, most int) *big.Rat {
	x := ratio(natural(source, 1+source.IntN(most)), natural(source, 1+source.IntN(most)))
	if source.IntN(2) == 0 {
		x.Neg(x)
	}
	return x
}

// fractions returns fractions of all lengths and of either sign: for a seed always the same ones. Most of them are short.
func fractions(seed uint64, count int) []sample {
	source := rand.New(rand.NewPCG(seed, seed))
	var list []sample
	for range count {
		list = append(list, fit(random(source, []int{1, 2, 3, 6, 6, 40, 40, api.MaxLimbs}[source.IntN(8)]))...)
	}
	return list
}

// invalid returns fractions that are not valid, each for one cause.
func invalid() []api.Quot {
	one, two := long.Of(1), long.Of(2)
	tooLong := api.Long{Digits: slices.Repeat([]int{1}, api.MaxLimbs+1)}
	most := fit(whole(tens(api.MaxLimbs, -1)))[0]
	return []api.Quot{
		{},
		{N: one},
		{N: long.Of(-1)},
		{D: two},
		{D: most.N},
		{D: long.Of(-1)},
		{N: one, D: long.Of(-2)},
		{N: two, D: long.Of(4)},
		{N: long.Of(-2), D: two},
		{N: long.Of(-9), D: long.Of(6)},
		{N: most.N, D: most.N},
		{N: most.N, D: long.Of(9)},
		{N: api.Long{Neg: true}, D: one},
		{N: one, D: api.Long{Neg: true}},
		{N: api.Long{Digits: []int{1, 0}}, D: two},
		{N: one, D: api.Long{Digits: []int{2, 0}}},
		{N: api.Long{Digits: []int{-1}}, D: two},
		{N: api.Long{Digits: []int{1000000000}}, D: long.Of(3)},
		{N: one, D: api.Long{Digits: []int{1000000000}}},
		{N: one, D: api.Long{Digits: []int{-2}}},
		{N: tooLong, D: one},
		{N: one, D: tooLong},
	}
}

// alike tells whether a and b have the same parts.
func alike(a, b api.Quot) bool {
	same := func(m, n api.Long) bool { return m.Neg == n.Neg && slices.Equal(m.Digits, n.Digits) }
	return same(a.N, b.N) && same(a.D, b.D)
}

// expect reports a result that is not the wanted one.
func expect(t *testing.T, name string, args any, a api.Quot, e api.Errno, want api.Quot, wantE api.Errno) {
	t.Helper()
	if !alike(a, want) || e != wantE {
		t.Errorf("%s%v: %v, error %d; want %v, error %d", name, args, a, e, want, wantE)
	}
}
