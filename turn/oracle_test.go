package turn_test

import (
	"math"
	"math/big"
	"math/rand/v2"
	"sync"
	"testing"

	"monocle/api"
	"monocle/span"
	"monocle/turn"
)

// bits is how many binary places the numbers of the oracle have, and spare how many of these may be wrong.
const (
	bits  = 256
	spare = 64
)

// scaled returns n in units of 2^-bits.
func scaled(n int64) *big.Int {
	return new(big.Int).Lsh(big.NewInt(n), bits)
}

// arctangent returns the arctangent of 1 / n.
func arctangent(n int64) *big.Int {
	power := new(big.Int).Quo(scaled(1), big.NewInt(n))
	sum, term := new(big.Int), new(big.Int)
	for k := int64(1); power.Sign() != 0; k += 2 {
		sum.Add(sum, term.Quo(power, big.NewInt(k)))
		power.Quo(power, big.NewInt(-n*n))
	}
	return sum
}

// fullTurn returns a turn in radians, by Gauss's formula.
var fullTurn = sync.OnceValue(func() *big.Int {
	sum := new(big.Int)
	for _, x := range [][2]int64{{12, 18}, {8, 57}, {-5, 239}} {
		sum.Add(sum, new(big.Int).Mul(big.NewInt(x[0]), arctangent(x[1])))
	}
	return sum.Lsh(sum, 3)
})

// residue returns n modulo d.
func residue(n, d int) int {
	return int(new(big.Int).Mod(big.NewInt(int64(n)), big.NewInt(int64(d))).Int64())
}

// wave returns the sine (for the first exponent 1) or the cosine (for 0) of n / d of a turn. Its series runs over the whole turn, without quarters.
func wave(n, d, first int) *big.Int {
	x := new(big.Int).Mul(fullTurn(), big.NewInt(int64(residue(n, d))))
	x.Quo(x, big.NewInt(int64(d)))
	term := scaled(1)
	if first == 1 {
		term.Set(x)
	}
	sum := new(big.Int)
	for k := int64(first); term.Sign() != 0; k += 2 {
		sum.Add(sum, term)
		term.Mul(term, x).Rsh(term, bits).Mul(term, x).Rsh(term, bits)
		term.Quo(term, big.NewInt(-(k+1)*(k+2)))
		if term.IsInt64() && term.Int64() == -1 {
			break // what a shift of a negative number comes to
		}
	}
	return sum
}

// surrounding returns the interval of one unit with the irrational number x in it.
func surrounding(t *testing.T, x *big.Int) api.Span {
	t.Helper()
	const width = bits - 32
	down := new(big.Int).Rsh(x, width)
	rest := new(big.Int).Sub(x, new(big.Int).Lsh(down, width))
	least := new(big.Int).Lsh(big.NewInt(1), spare)
	most := new(big.Int).Lsh(big.NewInt(1), width)
	if rest.Cmp(least) < 0 || rest.Cmp(most.Sub(most, least)) > 0 {
		t.Fatalf("%v is too near to a unit", x)
	}
	lo := int(down.Int64())
	return api.Span{Lo: lo, Hi: lo + 1}
}

// none stands for an irrational number among those that are multiples of 1/2.
const none = 9

// twelfths are the doubles of the sines of the twelfths of a turn.
var twelfths = [12]int{0, 1, none, 2, none, 1, 0, -1, none, -2, none, -1}

// rational returns the double of the sine of n / d of a turn and some twelfths if it is rational, and none otherwise.
func rational(n, d, more int) int {
	n = residue(n, d)
	if 12*n%d != 0 {
		return none
	}
	return twelfths[(12*n/d+more)%12]
}

// wantSine returns the interval of the sine.
func wantSine(t *testing.T, n, d int) api.Span {
	t.Helper()
	if double := rational(n, d, 0); double != none {
		return point(double * api.One / 2)
	}
	return surrounding(t, wave(n, d, 1))
}

// wantCosine returns the interval of the cosine.
func wantCosine(t *testing.T, n, d int) api.Span {
	t.Helper()
	if double := rational(n, d, 3); double != none {
		return point(double * api.One / 2)
	}
	return surrounding(t, wave(n, d, 0))
}

// compare tests Sine and Cosine.
func compare(t *testing.T, n, d int) {
	t.Helper()
	if s, e := turn.Sine(n, d); s != wantSine(t, n, d) || e != api.OK {
		t.Errorf("Sine(%d, %d): %v, error %d; want %v", n, d, s, e, wantSine(t, n, d))
	}
	if s, e := turn.Cosine(n, d); s != wantCosine(t, n, d) || e != api.OK {
		t.Errorf("Cosine(%d, %d): %v, error %d; want %v", n, d, s, e, wantCosine(t, n, d))
	}
}

// must returns a result of span, and panics with its error.
func must(s api.Span, e api.Errno) api.Span {
	if e != api.OK {
		panic(e)
	}
	return s
}

// wantDot returns the dot product as chapter 6 prints it, and panics with an error.
func wantDot(a, b api.Vec) api.Span {
	x, y, z := must(span.Mul(a[0], b[0])), must(span.Mul(a[1], b[1])), must(span.Mul(a[2], b[2]))
	return must(span.Add(must(span.Add(x, y)), z))
}

// column returns the column j of r.
func column(r api.Rot, j int) api.Vec {
	return api.Vec{r[0][j], r[1][j], r[2][j]}
}

// caught calls of, and returns the error with which it panics.
func caught[T any](of func() T) (r T, e api.Errno) {
	defer func() {
		if p := recover(); p != nil {
			var zero T
			r, e = zero, p.(api.Errno)
		}
	}()
	return of(), api.OK
}

// wantTimes returns the product of valid matrices, or the first error.
func wantTimes(a, b api.Rot) (api.Rot, api.Errno) {
	return caught(func() (r api.Rot) {
		for i := range r {
			for j := range r[i] {
				r[i][j] = wantDot(a[i], column(b, j))
			}
		}
		return r
	})
}

// wantTurn returns the vector into which a valid matrix turns a valid vector, or the first error.
func wantTurn(r api.Rot, v api.Vec) (api.Vec, api.Errno) {
	return caught(func() api.Vec {
		return api.Vec{wantDot(r[0], v), wantDot(r[1], v), wantDot(r[2], v)}
	})
}

// wantBack returns the vector into which a valid matrix turns a valid vector back, or the first error.
func wantBack(r api.Rot, v api.Vec) (api.Vec, api.Errno) {
	return caught(func() api.Vec {
		return api.Vec{wantDot(column(r, 0), v), wantDot(column(r, 1), v), wantDot(column(r, 2), v)}
	})
}

// wantAxes returns the matrices about x, y and z, written out as in the chapter.
func wantAxes(t *testing.T, ax, ay, az int) (x, y, z api.Rot) {
	t.Helper()
	parts := func(angle int) (c, s, minus api.Span) {
		c, s = wantCosine(t, angle, 360000000), wantSine(t, angle, 360000000)
		return c, s, api.Span{Lo: -s.Hi, Hi: -s.Lo}
	}
	o, i := point(0), point(api.One)
	c, s, minus := parts(ax)
	x = api.Rot{{i, o, o}, {o, c, minus}, {o, s, c}}
	c, s, minus = parts(ay)
	y = api.Rot{{c, o, s}, {o, i, o}, {minus, o, c}}
	c, s, minus = parts(az)
	z = api.Rot{{c, minus, o}, {s, c, o}, {o, o, i}}
	return x, y, z
}

// point returns the interval of the number v / One alone.
func point(v int) api.Span {
	return api.Span{Lo: v, Hi: v}
}

// whole returns the vector of the numbers x, y and z alone.
func whole(x, y, z int) api.Vec {
	return api.Vec{point(x * api.One), point(y * api.One), point(z * api.One)}
}

// diagonal returns the matrix that changes nothing.
func diagonal() api.Rot {
	return api.Rot{whole(1, 0, 0), whole(0, 1, 0), whole(0, 0, 1)}
}

// invalid returns intervals that are not valid, though some of them have valid ends, or few numbers.
func invalid() []api.Span {
	const far = api.MaxFix + 1
	return []api.Span{
		{Lo: 1, Hi: 0},
		{Lo: 0, Hi: -1},
		{Lo: api.MaxFix, Hi: -api.MaxFix},
		{Lo: 0, Hi: far},
		{Lo: -far, Hi: 0},
		{Lo: far, Hi: far},
		{Lo: -far, Hi: -far},
		{Lo: math.MinInt, Hi: math.MaxInt},
		{Lo: math.MaxInt, Hi: math.MinInt},
	}
}

// interval returns an interval with ends of either sign and any size up to 2^most, which is often a narrow one.
func interval(source *rand.Rand, most int) api.Span {
	limit := 1 << most
	v := int(source.Uint64()) >> (63 - most) >> source.IntN(most) // at least -limit, and less than limit
	width := source.IntN(limit) >> source.IntN(most)
	if source.IntN(4) == 0 {
		width = 0
	}
	return api.Span{Lo: v, Hi: min(v+width, limit)}
}

// vector returns a vector of intervals with ends up to 2^most.
func vector(source *rand.Rand, most int) api.Vec {
	return api.Vec{interval(source, most), interval(source, most), interval(source, most)}
}

// matrix returns a matrix of intervals with ends up to 2^most.
func matrix(source *rand.Rand, most int) api.Rot {
	return api.Rot{vector(source, most), vector(source, most), vector(source, most)}
}

// angles returns parts of a turn n / d of all sizes and both signs, the same ones for the same seed. Some are near multiples of a quarter of it.
func angles(seed uint64, count int) [][2]int {
	source := rand.New(rand.NewPCG(seed, 7))
	list := make([][2]int, count)
	for i := range list {
		d := 1 + source.IntN(api.MaxTurn)>>source.IntN(32)
		n := int(source.Uint64()) >> source.IntN(64)
		if i%3 == 0 {
			quarters := source.IntN(41) - 20
			n = quarters*d/4 + source.IntN(7) - 3
		}
		list[i] = [2]int{n, d}
	}
	return list
}

// degrees returns an angle in units of 10^-6 degree, often a multiple of 30 degrees.
func degrees(source *rand.Rand) int {
	switch source.IntN(3) {
	case 0:
		return 30000000 * (source.IntN(25) - 12)
	case 1:
		return 90000000*(source.IntN(7)-3) + source.IntN(5) - 2
	}
	return source.IntN(2*api.MaxDegrees+1) - api.MaxDegrees
}
