package vec_test

import (
	"math"
	"math/big"
	"math/rand/v2"
	"testing"

	"monocle/api"
	"monocle/vec"
)

// operation is a function of the package, in a form that is the same for all of them: what is one interval stands in the component x.
type operation struct {
	name      string
	of        func(a, b api.Vec) (api.Vec, api.Errno)
	exact     func(a, b api.Vec) api.Vec // the same, by exact numbers; it panics with the first error
	intervals int                        // how many components of a, and then of b, it takes
}

// alone returns a result that is one interval in the form of an operation's.
func alone(s api.Span, e api.Errno) (api.Vec, api.Errno) {
	return api.Vec{s}, e
}

// operations are all functions but Check, with what the chapter's section Terms says of each of them.
func operations() []operation {
	return []operation{
		{"Add", vec.Add, func(a, b api.Vec) api.Vec {
			return api.Vec{sum(a[0], b[0]), sum(a[1], b[1]), sum(a[2], b[2])}
		}, 6},
		{"Sub", vec.Sub, func(a, b api.Vec) api.Vec {
			return api.Vec{difference(a[0], b[0]), difference(a[1], b[1]), difference(a[2], b[2])}
		}, 6},
		{"Neg", func(a, _ api.Vec) (api.Vec, api.Errno) { return vec.Neg(a) }, func(a, _ api.Vec) api.Vec {
			return api.Vec{difference(api.Span{}, a[0]), difference(api.Span{}, a[1]), difference(api.Span{}, a[2])}
		}, 3},
		{"Scale", func(a, b api.Vec) (api.Vec, api.Errno) { return vec.Scale(a, b[0]) }, func(a, b api.Vec) api.Vec {
			return api.Vec{product(a[0], b[0]), product(a[1], b[0]), product(a[2], b[0])}
		}, 4},
		{"Dot", func(a, b api.Vec) (api.Vec, api.Errno) { return alone(vec.Dot(a, b)) }, func(a, b api.Vec) api.Vec {
			return api.Vec{sum(sum(product(a[0], b[0]), product(a[1], b[1])), product(a[2], b[2]))}
		}, 6},
		{"Cross", vec.Cross, func(a, b api.Vec) api.Vec {
			return api.Vec{
				difference(product(a[1], b[2]), product(a[2], b[1])),
				difference(product(a[2], b[0]), product(a[0], b[2])),
				difference(product(a[0], b[1]), product(a[1], b[0])),
			}
		}, 6},
		{"Norm", func(a, _ api.Vec) (api.Vec, api.Errno) { return alone(vec.Norm(a)) }, func(a, _ api.Vec) api.Vec {
			return api.Vec{norm(a)}
		}, 3},
		{"Unit", func(a, _ api.Vec) (api.Vec, api.Errno) { return vec.Unit(a) }, func(a, _ api.Vec) api.Vec {
			n := norm(a)
			return api.Vec{quotient(a[0], n), quotient(a[1], n), quotient(a[2], n)}
		}, 3},
	}
}

// wanted returns the result of exact, or its error.
func (o operation) wanted(a, b api.Vec) (r api.Vec, e api.Errno) {
	defer func() {
		if p := recover(); p != nil {
			r, e = api.Vec{}, p.(api.Errno)
		}
	}()
	return o.exact(a, b), api.OK
}

// compare tests an operation, and returns its error.
func (o operation) compare(t *testing.T, a, b api.Vec) api.Errno {
	t.Helper()
	want, wantE := o.wanted(a, b)
	o.same(t, a, b, want, wantE)
	return wantE
}

// same reports a result that is not the wanted one.
func (o operation) same(t *testing.T, a, b, want api.Vec, wantE api.Errno) {
	t.Helper()
	if r, e := o.of(a, b); r != want || e != wantE {
		t.Errorf("%s(%v, %v): %v, error %d; want %v, error %d", o.name, a, b, r, e, want, wantE)
	}
}

// number returns the number that v stands for.
func number(v int) *big.Rat {
	return big.NewRat(int64(v), api.One)
}

// floor returns x in units of One, rounded down.
func floor(x *big.Rat) *big.Int {
	n := new(big.Int).Mul(x.Num(), big.NewInt(api.One))
	return n.Div(n, x.Denom()) // the floor, since a denominator is positive
}

// between returns the interval from lo to hi, and panics if that is not valid.
func between(lo, hi *big.Int) api.Span {
	limit := big.NewInt(api.MaxFix)
	if lo.CmpAbs(limit) > 0 || hi.CmpAbs(limit) > 0 {
		panic(api.ErrBig)
	}
	return api.Span{Lo: int(lo.Int64()), Hi: int(hi.Int64())}
}

// around returns the interval of a set of numbers, whose least and greatest one are in the list.
func around(list ...*big.Rat) api.Span {
	least, greatest := list[0], list[0]
	for _, x := range list[1:] {
		if x.Cmp(least) < 0 {
			least = x
		}
		if x.Cmp(greatest) > 0 {
			greatest = x
		}
	}
	up := floor(new(big.Rat).Neg(greatest))
	return between(floor(least), up.Neg(up))
}

func sum(x, y api.Span) api.Span {
	return around(number(x.Lo+y.Lo), number(x.Hi+y.Hi))
}

func difference(x, y api.Span) api.Span {
	return around(number(x.Lo-y.Hi), number(x.Hi-y.Lo))
}

func product(x, y api.Span) api.Span {
	var list []*big.Rat
	for _, v := range []int{x.Lo, x.Hi} {
		for _, w := range []int{y.Lo, y.Hi} {
			list = append(list, new(big.Rat).Mul(number(v), number(w)))
		}
	}
	return around(list...)
}

func quotient(x, y api.Span) api.Span {
	if y.Lo <= 0 && y.Hi >= 0 {
		panic(api.ErrZero)
	}
	var list []*big.Rat
	for _, v := range []int{x.Lo, x.Hi} {
		for _, w := range []int{y.Lo, y.Hi} {
			list = append(list, big.NewRat(int64(v), int64(w)))
		}
	}
	return around(list...)
}

func square(x api.Span) api.Span {
	list := []*big.Rat{new(big.Rat).Mul(number(x.Lo), number(x.Lo)), new(big.Rat).Mul(number(x.Hi), number(x.Hi))}
	if x.Lo < 0 && x.Hi > 0 {
		list = append(list, number(0))
	}
	return around(list...)
}

func root(x api.Span) api.Span {
	square := func(v int) *big.Int { return new(big.Int).Mul(big.NewInt(int64(v)), big.NewInt(api.One)) }
	lo, hi := new(big.Int).Sqrt(square(x.Lo)), new(big.Int).Sqrt(square(x.Hi))
	if new(big.Int).Mul(hi, hi).Cmp(square(x.Hi)) < 0 {
		hi.Add(hi, big.NewInt(1))
	}
	return between(lo, hi)
}

func norm(a api.Vec) api.Span {
	return root(sum(sum(square(a[0]), square(a[1])), square(a[2])))
}

// edges returns intervals with ends of all sizes, among them those at which signs and errors change.
func edges() []api.Span {
	ends := []int{-api.MaxFix, -1 << 42, -api.One, -1, 0, 1, 1 << 16, api.One, 1 << 42, 1<<42 + 1, api.MaxFix}
	var list []api.Span
	for i, lo := range ends {
		for _, hi := range ends[i:] {
			list = append(list, api.Span{Lo: lo, Hi: hi})
		}
	}
	return list
}

// interval returns an interval with ends of either sign and any size up to 2^bits, which is often a narrow one.
func interval(source *rand.Rand, bits int) api.Span {
	limit := 1 << bits
	v := int(source.Uint64()) >> (63 - bits) >> source.IntN(bits) // at least -limit, and less than limit
	width := source.IntN(limit) >> source.IntN(bits)
	if source.IntN(4) == 0 {
		width = 0
	}
	return api.Span{Lo: v, Hi: min(v+width, limit)}
}

// vectors returns valid vectors: for a seed always the same ones. Some are of edges alone, most are of numbers with sizes up to one that is the vector's.
func vectors(seed uint64, count int) []api.Vec {
	source := rand.New(rand.NewPCG(seed, 6))
	list := edges()
	result := make([]api.Vec, count)
	for i := range result {
		bits := 20 + source.IntN(33)
		for k := range result[i] {
			result[i][k] = interval(source, bits)
			if i%8 == 0 {
				result[i][k] = list[source.IntN(len(list))]
			}
		}
	}
	return result
}

// invalid returns intervals that are not valid, though some of them have valid ends, or few numbers.
func invalid() []api.Span {
	const far = api.MaxFix + 1
	return []api.Span{
		{Lo: 1, Hi: 0},
		{Lo: 0, Hi: -1},
		{Lo: api.MaxFix, Hi: -api.MaxFix},
		{Lo: 0, Hi: far},
		{Lo: -far, Hi: 0},
		{Lo: far, Hi: far},
		{Lo: -far, Hi: -far},
		{Lo: math.MinInt, Hi: math.MaxInt},
		{Lo: math.MaxInt, Hi: math.MinInt},
		{Lo: math.MinInt, Hi: math.MinInt},
		{Lo: math.MaxInt, Hi: math.MaxInt},
	}
}

// point returns the interval of the number v / One alone.
func point(v int) api.Span {
	return api.Span{Lo: v, Hi: v}
}

// whole returns the vector of the numbers x, y and z alone.
func whole(x, y, z int) api.Vec {
	return api.Vec{point(x * api.One), point(y * api.One), point(z * api.One)}
}
