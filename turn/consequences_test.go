package turn_test

import (
	"math"
	"math/rand/v2"
	"testing"

	"monocle/api"
	"monocle/span"
	"monocle/turn"
	"monocle/vec"
)

// both returns the sine and the cosine.
func both(t *testing.T, n, d int) (s, c api.Span) {
	t.Helper()
	s, e := turn.Sine(n, d)
	c, f := turn.Cosine(n, d)
	if e != api.OK || f != api.OK {
		t.Fatalf("%d / %d: errors %d, %d", n, d, e, f)
	}
	return s, c
}

// meets tells whether two intervals have a number in common.
func meets(a, b api.Span) bool {
	_, e := span.Meet(a, b)
	return e == api.OK
}

// contains tells whether all numbers of b are in a.
func contains(a, b api.Vec) bool {
	for k := range a {
		if a[k].Lo > b[k].Lo || a[k].Hi < b[k].Hi {
			return false
		}
	}
	return true
}

// P7.4: sines and cosines do not change if n grows by d, or both grow by the same factor.
func TestEqualAngles(t *testing.T) {
	for i, a := range angles(10, 6000) {
		n, d := a[0], a[1]
		s, c := both(t, n, d)
		if n <= math.MaxInt-d {
			if s1, c1 := both(t, n+d, d); s1 != s || c1 != c {
				t.Errorf("%d + %d: %v, %v; want %v, %v", n, d, s1, c1, s, c)
			}
		}
		factor := 1 + i%1000
		if n = n % (1 << 50); d*factor <= api.MaxTurn {
			s, c = both(t, n, d)
			if s1, c1 := both(t, n*factor, d*factor); s1 != s || c1 != c {
				t.Errorf("%d / %d times %d: %v, %v; want %v, %v", n, d, factor, s1, c1, s, c)
			}
		}
	}
}

// P7.4: the sine of the negative angle is the negative interval, and the cosine is the same.
func TestNegativeAngles(t *testing.T) {
	for _, a := range angles(11, 6000) {
		n, d := max(a[0], -math.MaxInt), a[1]
		s, c := both(t, n, d)
		if minus, c1 := both(t, -n, d); minus != (api.Span{Lo: -s.Hi, Hi: -s.Lo}) || c1 != c {
			t.Errorf("-%d / %d: %v, %v; want the negative of %v, and %v", n, d, minus, c1, s, c)
		}
	}
}

// P7.4: the sum of the squares contains 1.
func TestSquares(t *testing.T) {
	for _, a := range angles(12, 6000) {
		s, c := both(t, a[0], a[1])
		sum := must(span.Add(must(span.Sqr(s)), must(span.Sqr(c))))
		if has, _ := span.Has(sum, api.One); !has {
			t.Errorf("%d / %d: %v, %v with the sum of squares %v", a[0], a[1], s, c, sum)
		}
	}
}

// P7.4: the addition theorem.
func TestSumsOfAngles(t *testing.T) {
	source := rand.New(rand.NewPCG(13, 7))
	for _, a := range angles(13, 6000) {
		n, d := a[0]>>1, a[1]
		m := int(source.Uint64()) >> 1 >> source.IntN(63)
		s1, c1 := both(t, n, d)
		s2, c2 := both(t, m, d)
		s, c := both(t, n+m, d)
		if sum := must(span.Add(must(span.Mul(s1, c2)), must(span.Mul(c1, s2)))); !meets(s, sum) {
			t.Errorf("sine of (%d + %d) / %d: %v and %v", n, m, d, s, sum)
		}
		if sum := must(span.Sub(must(span.Mul(c1, c2)), must(span.Mul(s1, s2)))); !meets(c, sum) {
			t.Errorf("cosine of (%d + %d) / %d: %v and %v", n, m, d, c, sum)
		}
	}
}

// P7.4: a rotation by 0 about all axes changes nothing.
func TestNoRotation(t *testing.T) {
	r, e := turn.Rotation(0, 0, 0)
	if r != diagonal() || e != api.OK {
		t.Fatalf("Rotation(0, 0, 0): %v, error %d", r, e)
	}
	source := rand.New(rand.NewPCG(14, 7))
	for i := range 3000 {
		v := vector(source, 52-i%50)
		if u, e := turn.Turn(r, v); u != v || e != api.OK {
			t.Errorf("Turn of %v: %v, error %d", v, u, e)
		}
		if u, e := turn.Back(r, v); u != v || e != api.OK {
			t.Errorf("Back of %v: %v, error %d", v, u, e)
		}
	}
}

// P7.4: a vector that is turned and turned back is contained in the result, and its norm has a number in common with that of the turned one.
func TestTurnedBack(t *testing.T) {
	source := rand.New(rand.NewPCG(15, 7))
	for i := range 3000 {
		r, e := turn.Rotation(degrees(source), degrees(source), degrees(source))
		if e != api.OK {
			t.Fatalf("Rotation: error %d", e)
		}
		v := vector(source, 40-i%38)
		turned, e := turn.Turn(r, v)
		if e != api.OK {
			t.Fatalf("Turn(%v, %v): error %d", r, v, e)
		}
		if back, e := turn.Back(r, turned); !contains(back, v) || e != api.OK {
			t.Errorf("%v turns %v into %v, and back into %v, error %d", r, v, turned, back, e)
		}
		if a, b := must(vec.Norm(v)), must(vec.Norm(turned)); !meets(a, b) {
			t.Errorf("%v turns %v with the norm %v into %v with the norm %v", r, v, a, turned, b)
		}
		if again, e := turn.Back(r, v); e != api.OK || !meets(must(vec.Norm(v)), must(vec.Norm(again))) {
			t.Errorf("%v turns %v back into %v, error %d", r, v, again, e)
		}
	}
}

// P7.2: a product turns a vector first as its second factor does, and then as its first one does.
func TestProductTurns(t *testing.T) {
	source := rand.New(rand.NewPCG(16, 7))
	for range 2000 {
		a, _ := turn.Rotation(degrees(source), degrees(source), degrees(source))
		b, _ := turn.Rotation(degrees(source), degrees(source), degrees(source))
		r, e := turn.Times(a, b)
		if e != api.OK {
			t.Fatalf("Times(%v, %v): error %d", a, b, e)
		}
		v := vector(source, 40)
		at, _ := turn.Turn(r, v)
		first, _ := turn.Turn(b, v)
		then, _ := turn.Turn(a, first)
		for k := range at {
			if !meets(at[k], then[k]) {
				t.Errorf("the product of %v and %v turns %v into %v, and not %v", a, b, v, at, then)
			}
		}
	}
}
