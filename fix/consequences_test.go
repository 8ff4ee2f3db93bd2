package fix_test

import (
	"testing"

	"monocle/api"
	"monocle/fix"
)

// directed is a function of two numbers that is rounded down and up.
type directed struct {
	name     string
	down, up two
}

// directeds are all of those, with some that scale by n / d.
func directeds() []directed {
	list := []directed{{"Mul", fix.MulDown, fix.MulUp}, {"Div", fix.DivDown, fix.DivUp}}
	for _, d := range []int{1, 3, api.One, maxFactor} {
		list = append(list, directed{
			"Scale",
			func(a, n int) (int, api.Errno) { return fix.ScaleDown(a, n, d) },
			func(a, n int) (int, api.Errno) { return fix.ScaleUp(a, n, d) },
		})
	}
	return list
}

// P1.7: what is rounded up is what is rounded down, or one more.
func TestUpIsAtMostOneMore(t *testing.T) {
	as, bs := fixes(5, 5000), fixes(6, 5000)
	for _, f := range directeds() {
		for i, a := range as {
			down, e := f.down(a, bs[i])
			up, g := f.up(a, bs[i])
			if e == api.OK && g == api.OK && up != down && up != down+1 {
				t.Errorf("%s(%d, %d): %d, %d", f.name, a, bs[i], down, up)
			}
		}
	}
	for _, a := range as {
		down, e := fix.SqrtDown(max(a, -a))
		up, f := fix.SqrtUp(max(a, -a))
		if e != api.OK || f != api.OK || up != down && up != down+1 {
			t.Errorf("Sqrt(%d): %d, %d", max(a, -a), down, up)
		}
		if down, up, e := fix.FromDec(a, 12); e != api.OK || up != down && up != down+1 {
			t.Errorf("FromDec(%d, 12): %d, %d", a, down, up)
		}
	}
}

// P1.7: rounding down the negative of a number gives the negative of that number rounded up.
func TestNegatives(t *testing.T) {
	as, bs := fixes(7, 5000), fixes(8, 5000)
	for _, f := range directeds() {
		for i, a := range as {
			up, e := f.up(a, bs[i])
			n, g := f.down(-a, bs[i])
			same(t, f.name, []int{-a, bs[i]}, n, g, -up, e)
			n, g = f.down(a, -bs[i])
			same(t, f.name, []int{a, -bs[i]}, n, g, -up, e)
		}
	}
	for _, n := range as {
		down, up, e := fix.FromDec(n, 9)
		if minusDown, minusUp, f := fix.FromDec(-n, 9); minusDown != -up || minusUp != -down || e != f {
			t.Errorf("FromDec(%d, 9): %d, %d, error %d", -n, minusDown, minusUp, f)
		}
	}
}

// P1.7: products do not depend on the order of their factors.
func TestProductsCommute(t *testing.T) {
	as, bs := fixes(9, 5000), fixes(10, 5000)
	for i, a := range as {
		for _, of := range []two{fix.MulDown, fix.MulUp} {
			n, e := of(a, bs[i])
			m, f := of(bs[i], a)
			same(t, "Mul", []int{a, bs[i]}, n, e, m, f)
		}
	}
}

// grows reports results that become less: next follows last. What is ErrBig is greater than all others.
func grows(t *testing.T, name string, args []int, last int, lastE api.Errno, next int, nextE api.Errno) {
	t.Helper()
	if lastE != api.OK && lastE != api.ErrBig || nextE != api.OK && nextE != api.ErrBig {
		t.Errorf("%s%v: errors %d, %d", name, args, lastE, nextE)
	}
	if nextE == api.OK && (lastE != api.OK || next < last) {
		t.Errorf("%s%v: %d, error %d, after %d, error %d", name, args, next, nextE, last, lastE)
	}
}

// P1.7: sums and products of numbers from 0 on do not decrease if one of them increases.
func TestSumsAndProductsGrow(t *testing.T) {
	list := ascending()
	for name, of := range map[string]two{"Add": fix.Add, "MulDown": fix.MulDown, "MulUp": fix.MulUp} {
		for i, a := range list[1:] {
			for _, b := range list {
				last, e := of(list[i], b)
				next, f := of(a, b)
				grows(t, name, []int{a, b}, last, e, next, f)
				last, e = of(b, list[i])
				next, f = of(b, a)
				grows(t, name, []int{b, a}, last, e, next, f)
			}
		}
	}
}

// P1.7: quotients do not decrease with their dividend, and do not increase with their divisor.
func TestQuotientsGrow(t *testing.T) {
	list := ascending()[1:]
	for name, of := range map[string]two{"DivDown": fix.DivDown, "DivUp": fix.DivUp} {
		for i, a := range list[1:] {
			for _, b := range list {
				last, e := of(list[i], b)
				next, f := of(a, b)
				grows(t, name, []int{a, b}, last, e, next, f)
				last, e = of(b, a)
				next, f = of(b, list[i])
				grows(t, name, []int{b, a}, last, e, next, f)
			}
		}
	}
}

// P1.7: roots and scaled numbers do not decrease if an argument increases, but for the divisor.
func TestRootsAndScaledNumbersGrow(t *testing.T) {
	list := ascending()
	for i, a := range list[1:] {
		for name, of := range map[string]one{"SqrtDown": fix.SqrtDown, "SqrtUp": fix.SqrtUp} {
			last, e := of(list[i])
			next, f := of(a)
			grows(t, name, []int{a}, last, e, next, f)
		}
		for name, of := range map[string]three{"ScaleDown": fix.ScaleDown, "ScaleUp": fix.ScaleUp} {
			for _, b := range list[1:] {
				for _, c := range list[1:] {
					last, e := of(list[i], b, c)
					next, f := of(a, b, c)
					grows(t, name, []int{a, b, c}, last, e, next, f)
					last, e = of(b, list[i], c)
					next, f = of(b, a, c)
					grows(t, name, []int{b, a, c}, last, e, next, f)
					if list[i] > 0 {
						last, e = of(b, c, a)
						next, f = of(b, c, list[i])
						grows(t, name, []int{b, c, a}, last, e, next, f)
					}
				}
			}
		}
	}
}

// P1.7: a root that was rounded down has a square that is at most the number, and one more has a greater one.
func TestSquaresOfRoots(t *testing.T) {
	for _, a := range append(ascending(), fixes(11, 5000)...) {
		a = max(a, -a)
		r, e := fix.SqrtDown(a)
		if e != api.OK || times(r, r).Cmp(times(a, api.One)) > 0 || times(r+1, r+1).Cmp(times(a, api.One)) <= 0 {
			t.Errorf("SqrtDown(%d): %d, error %d", a, r, e)
		}
	}
}
