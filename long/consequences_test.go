package long_test

import (
	"math/big"
	"math/rand/v2"
	"testing"

	"monocle/api"
	"monocle/long"
)

// must returns a result that has no error.
func must(t *testing.T) func(a api.Long, e api.Errno) api.Long {
	return func(a api.Long, e api.Errno) api.Long {
		t.Helper()
		if e != api.OK {
			t.Fatalf("error %d", e)
		}
		return a
	}
}

// P3.5: sums, products and common divisors do not depend on the order of their arguments, with or without an error.
func TestOrderOfArguments(t *testing.T) {
	for name, f := range map[string]two{"Add": long.Add, "Mul": long.Mul, "Gcd": long.Gcd} {
		for _, p := range pairs() {
			r, e := f(p[0], p[1])
			w, g := f(p[1], p[0])
			same(t, name, []any{p}, r, e, w, g)
		}
	}
}

// P3.5: the distributive law.
func TestDistributiveLaw(t *testing.T) {
	source := rand.New(rand.NewPCG(11, 11))
	r := must(t)
	for range 3000 {
		most := []int{2, 6, 100, 299}[source.IntN(4)]
		a, b, c := random(source, most), random(source, most), random(source, most)
		left := r(long.Mul(r(long.Add(a, b)), c))
		right := r(long.Add(r(long.Mul(a, c)), r(long.Mul(b, c))))
		if !long.Same(left, right) {
			t.Errorf("(%v + %v) * %v: %v and %v", a, b, c, left, right)
		}
	}
}

// P3.5: the rest is smaller than the divisor, has the sign of what is divided, and completes the product of divisor and quotient.
func TestRest(t *testing.T) {
	r := must(t)
	for _, p := range pairs() {
		a, b := p[0], p[1]
		if len(b.Digits) == 0 {
			continue
		}
		q, rest, e := long.Div(a, b)
		if e != api.OK || !long.Same(r(long.Add(r(long.Mul(b, q)), rest)), a) {
			t.Errorf("Div(%v, %v): %v, %v, error %d", a, b, q, rest, e)
		}
		if c, f := long.Cmp(api.Long{Digits: rest.Digits}, api.Long{Digits: b.Digits}); c != -1 || f != api.OK {
			t.Errorf("Div(%v, %v): the rest is %v", a, b, rest)
		}
		if len(rest.Digits) > 0 && rest.Neg != a.Neg || len(rest.Digits) == 0 && rest.Neg {
			t.Errorf("Div(%v, %v): the sign of the rest %v", a, b, rest)
		}
	}
}

// P3.5: the common divisor of a c and b c is that of a and b, times c without its sign.
func TestCommonFactor(t *testing.T) {
	source := rand.New(rand.NewPCG(12, 12))
	r := must(t)
	for range 2000 {
		most := []int{2, 6, 50, 300}[source.IntN(4)]
		a, b, c := random(source, most), random(source, most), random(source, most)
		left := r(long.Gcd(r(long.Mul(a, c)), r(long.Mul(b, c))))
		right := r(long.Mul(r(long.Gcd(a, b)), api.Long{Digits: c.Digits}))
		if !long.Same(left, right) {
			t.Errorf("Gcd of %v and %v, times %v: %v and %v", a, b, c, left, right)
		}
	}
}

// P3.3: the common divisor divides both, and its quotients have none but 1.
func TestDivisorDivides(t *testing.T) {
	r := must(t)
	for _, p := range pairs() {
		g := r(long.Gcd(p[0], p[1]))
		if g.Neg || len(g.Digits) == 0 != (len(p[0].Digits)+len(p[1].Digits) == 0) {
			t.Errorf("Gcd%v: %v", p, g)
		}
		if len(g.Digits) == 0 {
			continue
		}
		x, restX, _ := long.Div(p[0], g)
		y, restY, _ := long.Div(p[1], g)
		if len(restX.Digits)+len(restY.Digits) > 0 || !long.Same(r(long.Gcd(x, y)), of(1)) {
			t.Errorf("Gcd%v: %v", p, g)
		}
	}
}

// P3.3: the square of the root is at most the number, and the next square is greater.
func TestRootIsBetween(t *testing.T) {
	r := must(t)
	for _, a := range longs(13, 1500) {
		a.Neg = false
		root := r(long.Sqrt(a))
		next := r(long.Add(root, of(1)))
		below, _ := long.Cmp(r(long.Mul(root, root)), a)
		if above := new(big.Int).Mul(number(next), number(next)); below > 0 || above.Cmp(number(a)) <= 0 {
			t.Errorf("Sqrt(%v): %v", a, root)
		}
	}
}

// P3.5: Parse inverts Text.
func TestParseInvertsText(t *testing.T) {
	for _, a := range append(edges(), longs(14, 2000)...) {
		s, e := long.Text(a)
		if e != api.OK {
			t.Errorf("Text(%v): error %d", a, e)
		}
		r, e := long.Parse(s)
		same(t, "Parse", []any{s}, r, e, a, api.OK)
	}
}

// P3.5: subtracting undoes adding, and two negatives undo each other.
func TestUndone(t *testing.T) {
	r := must(t)
	for _, p := range pairs() {
		a, b := p[0], p[1]
		if sum, e := long.Add(a, b); e == api.OK && !long.Same(r(long.Sub(sum, b)), a) {
			t.Errorf("%v + %v - %v", a, b, b)
		}
		if !long.Same(r(long.Neg(r(long.Neg(a)))), a) {
			t.Errorf("-(-%v)", a)
		}
	}
}

// P3.5: for numbers that fit, all results are those of the arithmetic of int.
func TestArithmeticOfInt(t *testing.T) {
	r := must(t)
	check := func(name string, a, b int, result api.Long, want int) {
		t.Helper()
		if n, e := long.Int(result); n != want || e != api.OK {
			t.Errorf("%s(%d, %d): %d, error %d; want %d", name, a, b, n, e, want)
		}
	}
	const sums, products = 1 << 62, 1 << 31
	list := ints()
	for i, n := range list {
		m := list[len(list)-1-i]
		a, b := n%sums, m%sums
		check("Add", a, b, r(long.Add(long.Of(a), long.Of(b))), a+b)
		check("Sub", a, b, r(long.Sub(long.Of(a), long.Of(b))), a-b)
		check("Neg", a, 0, r(long.Neg(long.Of(a))), -a)
		if c, e := long.Cmp(long.Of(n), long.Of(m)); e != api.OK || (c < 0) != (n < m) || (c > 0) != (n > m) {
			t.Errorf("Cmp(%d, %d): %d, error %d", n, m, c, e)
		}
		if b != 0 {
			q, rest, _ := long.Div(long.Of(a), long.Of(b))
			check("Div", a, b, q, a/b)
			check("Div", a, b, rest, a%b)
		}
		a, b = a%products, b%products
		check("Mul", a, b, r(long.Mul(long.Of(a), long.Of(b))), a*b)
	}
}
