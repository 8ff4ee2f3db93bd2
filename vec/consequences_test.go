package vec_test

import (
	"math/big"
	"math/rand/v2"
	"testing"

	"monocle/api"
	"monocle/span"
	"monocle/vec"
)

// real is a vector of numbers.
type real [3]*big.Rat

func plus(x, y *big.Rat) *big.Rat  { return new(big.Rat).Add(x, y) }
func minus(x, y *big.Rat) *big.Rat { return new(big.Rat).Sub(x, y) }
func times(x, y *big.Rat) *big.Rat { return new(big.Rat).Mul(x, y) }

// dot returns the dot product of vectors of numbers.
func dot(x, y real) *big.Rat {
	return plus(plus(times(x[0], y[0]), times(x[1], y[1])), times(x[2], y[2]))
}

// cross returns the component k of the cross product of vectors of numbers.
func cross(x, y real, k int) *big.Rat {
	i, j := (k+1)%3, (k+2)%3
	return minus(times(x[i], y[j]), times(x[j], y[i]))
}

// inside returns an interval within s.
func inside(source *rand.Rand, s api.Span) api.Span {
	v := s.Lo + source.IntN(s.Hi-s.Lo+1)
	w := s.Lo + source.IntN(s.Hi-s.Lo+1)
	return api.Span{Lo: min(v, w), Hi: max(v, w)}
}

// part returns a vector within a.
func part(source *rand.Rand, a api.Vec) api.Vec {
	for k, s := range a {
		a[k] = inside(source, s)
	}
	return a
}

// member returns a vector of numbers in a, some of which lie between fixed-point numbers.
func member(source *rand.Rand, a api.Vec) real {
	var x real
	for k, s := range part(source, a) {
		x[k] = number(s.Lo)
		if s.Lo < s.Hi {
			x[k] = plus(x[k], big.NewRat(1, 3*api.One))
		}
	}
	return x
}

// contains tells whether the number x is in s.
func contains(s api.Span, x *big.Rat) bool {
	return number(s.Lo).Cmp(x) <= 0 && x.Cmp(number(s.Hi)) <= 0
}

// signed returns the square of x with the sign of x, which rises with x.
func signed(x *big.Rat) *big.Rat {
	return times(x, new(big.Rat).Abs(x))
}

// containsRoot tells whether the number, of which x is the signed square, is in s.
func containsRoot(s api.Span, x *big.Rat) bool {
	return signed(number(s.Lo)).Cmp(x) <= 0 && x.Cmp(signed(number(s.Hi))) <= 0
}

// holds tells whether the result r of the operation contains its result for the vectors of numbers x and y.
func (o operation) holds(r api.Vec, x, y real) bool {
	square := dot(x, x)
	all := true
	for k, s := range r {
		switch o.name {
		case "Add":
			all = all && contains(s, plus(x[k], y[k]))
		case "Sub":
			all = all && contains(s, minus(x[k], y[k]))
		case "Neg":
			all = all && contains(s, minus(new(big.Rat), x[k]))
		case "Scale":
			all = all && contains(s, times(x[k], y[0]))
		case "Cross":
			all = all && contains(s, cross(x, y, k))
		case "Unit":
			all = all && containsRoot(s, new(big.Rat).Quo(signed(x[k]), square))
		}
	}
	switch o.name {
	case "Dot":
		return contains(r[0], dot(x, y))
	case "Norm":
		return containsRoot(r[0], square)
	}
	return all
}

// P6.4: the result contains the results for vectors of numbers in the arguments.
func TestResultsAreContained(t *testing.T) {
	source := rand.New(rand.NewPCG(4, 6))
	as, bs := vectors(4, 8000), vectors(5, 8000)
	for _, o := range operations() {
		for i, a := range as {
			r, e := o.of(a, bs[i])
			if e != api.OK {
				continue
			}
			x, y := member(source, a), member(source, bs[i])
			if !o.holds(r, x, y) {
				t.Errorf("%s(%v, %v): %v without the result of %v, %v", o.name, a, bs[i], r, x, y)
			}
		}
	}
}

// within tells whether a is within b.
func within(a, b api.Vec) bool {
	for k := range a {
		if a[k].Lo < b[k].Lo || a[k].Hi > b[k].Hi {
			return false
		}
	}
	return true
}

// P6.4: the result for vectors within the arguments is within the former one, and there is one.
func TestResultsAreWithin(t *testing.T) {
	source := rand.New(rand.NewPCG(6, 6))
	as, bs := vectors(6, 8000), vectors(7, 8000)
	for _, o := range operations() {
		for i, a := range as {
			r, e := o.of(a, bs[i])
			if e != api.OK {
				continue
			}
			c, d := part(source, a), part(source, bs[i])
			if s, f := o.of(c, d); f != api.OK || !within(s, r) {
				t.Errorf("%s(%v, %v): %v, error %d, beyond %v of %v, %v", o.name, c, d, s, f, r, a, bs[i])
			}
		}
	}
}

// P6.4: the dot product does not depend on the order of its arguments, and the cross product changes its sign with it.
func TestOrderOfArguments(t *testing.T) {
	bs := vectors(9, 8000)
	for i, a := range vectors(8, 8000) {
		b := bs[i]
		r, e := vec.Dot(a, b)
		if s, f := vec.Dot(b, a); r != s || e != f {
			t.Errorf("Dot(%v, %v): %v, error %d, and %v, error %d", a, b, r, e, s, f)
		}
		n, e := vec.Cross(a, b)
		m, f := vec.Cross(b, a)
		if e == api.OK {
			n, e = vec.Neg(n)
		}
		if n != m || e != f {
			t.Errorf("Cross(%v, %v): the negative of %v, error %d, and %v, error %d", a, b, n, e, m, f)
		}
	}
}

// P6.4: the dot product of a vector and its cross product with another one contains 0.
func TestCrossIsNormal(t *testing.T) {
	bs, count := vectors(11, 8000), 0
	for i, a := range vectors(10, 8000) {
		c, e := vec.Cross(a, bs[i])
		if e != api.OK {
			continue
		}
		for _, v := range []api.Vec{a, bs[i]} {
			d, e := vec.Dot(v, c)
			if e != api.OK {
				continue
			}
			count++
			if has, _ := span.Has(d, 0); !has {
				t.Errorf("Cross(%v, %v): %v, with a dot product %v", a, bs[i], c, d)
			}
		}
	}
	if count < 200 {
		t.Errorf("just %d dot products", count)
	}
}

// P6.4: the norm of a unit vector contains 1.
func TestNormOfUnit(t *testing.T) {
	count := 0
	for _, a := range vectors(12, 8000) {
		u, e := vec.Unit(a)
		if e != api.OK {
			continue
		}
		n, e := vec.Norm(u)
		if e != api.OK {
			continue
		}
		count++
		if has, _ := span.Has(n, api.One); !has {
			t.Errorf("Unit(%v): %v, with the norm %v", a, u, n)
		}
	}
	if count < 200 {
		t.Errorf("just %d norms", count)
	}
}
