package span_test

import (
	"math"
	"math/big"
	"math/rand/v2"
	"testing"

	"monocle/api"
)

// maxFactor is the limit of n and d for Scale.
const maxFactor = 1 << 62

// Each kind of function, with the number of its intervals.
type (
	one = func(a api.Span) (api.Span, api.Errno)
	two = func(a, b api.Span) (api.Span, api.Errno)
)

func valid(a api.Span) bool {
	return -api.MaxFix <= a.Lo && a.Lo <= a.Hi && a.Hi <= api.MaxFix
}

// whole returns the interval from lo to hi, in units of 1.
func whole(lo, hi int) api.Span {
	return api.Span{Lo: lo * api.One, Hi: hi * api.One}
}

// number returns the number that v stands for.
func number(v int) *big.Rat {
	return big.NewRat(int64(v), api.One)
}

// floor returns x in units of One, rounded down.
func floor(x *big.Rat) *big.Int {
	n := new(big.Int).Mul(x.Num(), big.NewInt(api.One))
	return n.Div(n, x.Denom()) // the floor, since a denominator is positive
}

// ceiling returns x in units of One, rounded up.
func ceiling(x *big.Rat) *big.Int {
	n := floor(new(big.Rat).Neg(x))
	return n.Neg(n)
}

// around returns the interval of a set of results, of which the least and the greatest one are in the list.
func around(list []*big.Rat) (api.Span, api.Errno) {
	least, greatest := list[0], list[0]
	for _, x := range list[1:] {
		if x.Cmp(least) < 0 {
			least = x
		}
		if x.Cmp(greatest) > 0 {
			greatest = x
		}
	}
	return between(floor(least), ceiling(greatest))
}

// between returns the interval from lo to hi, or ErrBig if that is not valid.
func between(lo, hi *big.Int) (api.Span, api.Errno) {
	if !lo.IsInt64() || !hi.IsInt64() {
		return api.Span{}, api.ErrBig
	}
	a := api.Span{Lo: int(lo.Int64()), Hi: int(hi.Int64())}
	if !valid(a) {
		return api.Span{}, api.ErrBig
	}
	return a, api.OK
}

// points returns numbers of a: its ends, and 0 if it is in a. The extreme results of all operations are at some of them.
func points(a api.Span) []*big.Rat {
	list := []*big.Rat{number(a.Lo)}
	if a.Lo < 0 && a.Hi > 0 {
		list = append(list, number(0))
	}
	if a.Lo < a.Hi {
		list = append(list, number(a.Hi))
	}
	return list
}

// ofOne returns the function of intervals that belongs to a function of numbers.
func ofOne(f func(x *big.Rat) *big.Rat) one {
	return func(a api.Span) (api.Span, api.Errno) {
		var list []*big.Rat
		for _, x := range points(a) {
			list = append(list, f(x))
		}
		return around(list)
	}
}

// ofTwo does the same for a function of two numbers.
func ofTwo(f func(x, y *big.Rat) *big.Rat) two {
	return func(a, b api.Span) (api.Span, api.Errno) {
		var list []*big.Rat
		for _, x := range points(a) {
			for _, y := range points(b) {
				list = append(list, f(x, y))
			}
		}
		return around(list)
	}
}

// power returns the product of n factors x.
func power(x *big.Rat, n int) *big.Rat {
	p := big.NewRat(1, 1)
	for range n {
		p.Mul(p, x)
	}
	return p
}

// ascending returns fixed-point numbers of all sizes, sorted, among them those at which signs and errors change.
func ascending() []int {
	return []int{
		-api.MaxFix, 1 - api.MaxFix, -1 << 42, -4 * api.One, -api.One - 1, -api.One, -1 << 31, -3, -2, -1,
		0, 1, 2, 1 << 16, 1 << 31, api.One - 1, api.One, 3 * api.One, 1 << 42, 1<<42 + 1, api.MaxFix - 1, api.MaxFix,
	}
}

// edges returns all intervals with ends of ascending.
func edges() []api.Span {
	var list []api.Span
	for i, lo := range ascending() {
		for _, hi := range ascending()[i:] {
			list = append(list, api.Span{Lo: lo, Hi: hi})
		}
	}
	return list
}

// ints returns integers of all lengths and of either sign: for a seed always the same ones.
func ints(seed uint64, count int) []int {
	source := rand.New(rand.NewPCG(seed, seed))
	var list []int
	for range count {
		list = append(list, int(source.Uint64())>>source.IntN(64))
	}
	return list
}

// spans returns valid intervals of all sizes and widths, and of either sign: for a seed always the same ones.
func spans(seed uint64, count int) []api.Span {
	starts, ends := ints(seed, count), ints(seed+1000, count)
	var list []api.Span
	for i, v := range starts {
		v %= api.MaxFix + 1
		w := ends[i] % (api.MaxFix + 1)
		if i%3 > 0 { // narrow intervals: a third of them are of a few parts
			w = max(-api.MaxFix, min(api.MaxFix, v+w%(1<<(16*(i%3)-14))))
		}
		list = append(list, api.Span{Lo: min(v, w), Hi: max(v, w)})
	}
	return list
}

// invalid returns intervals that are not valid, though some of them have valid ends, or few numbers.
func invalid() []api.Span {
	const far = api.MaxFix + 1
	return []api.Span{
		{Lo: 1, Hi: 0},
		{Lo: 0, Hi: -1},
		{Lo: api.MaxFix, Hi: -api.MaxFix},
		{Lo: 0, Hi: far},
		{Lo: -far, Hi: 0},
		{Lo: far, Hi: far},
		{Lo: -far, Hi: -far},
		{Lo: math.MinInt, Hi: math.MaxInt},
		{Lo: math.MaxInt, Hi: math.MinInt},
		{Lo: math.MinInt, Hi: math.MinInt},
		{Lo: math.MaxInt, Hi: math.MaxInt},
	}
}

// same reports a result that is not the wanted one.
func same(t *testing.T, name string, args []any, a api.Span, e api.Errno, want api.Span, wantE api.Errno) {
	t.Helper()
	if a != want || e != wantE {
		t.Errorf("%s%v: %v, error %d; want %v, error %d", name, args, a, e, want, wantE)
	}
}

// compareOne tests a function of one interval for small and large numbers of both signs.
func compareOne(t *testing.T, name string, of, want one) {
	t.Helper()
	for _, a := range append(edges(), spans(1, 3000)...) {
		r, e := of(a)
		w, f := want(a)
		same(t, name, []any{a}, r, e, w, f)
	}
}

// compareTwo does the same for a function of two intervals.
func compareTwo(t *testing.T, name string, of, want two) {
	t.Helper()
	compare := func(a, b api.Span) {
		t.Helper()
		r, e := of(a, b)
		w, f := want(a, b)
		same(t, name, []any{a, b}, r, e, w, f)
	}
	for _, a := range edges() {
		for _, b := range edges() {
			compare(a, b)
		}
	}
	bs := spans(2, 10000)
	for i, a := range spans(1, 10000) {
		compare(a, bs[i])
	}
}
