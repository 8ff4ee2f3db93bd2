package fix_test

import (
	"math"
	"testing"

	"monocle/api"
	"monocle/fix"
)

// The chapter's examples of functions of one number (P1.1, P1.4).
func TestExamplesOfOne(t *testing.T) {
	for _, x := range []struct {
		name    string
		of      one
		a, want int
		e       api.Errno
	}{
		{"Neg", fix.Neg, 1<<52 + 1, 0, api.ErrArg},
		{"SqrtDown", fix.SqrtDown, 2 << 32, 6074000999, api.OK},
		{"SqrtUp", fix.SqrtUp, 2 << 32, 6074001000, api.OK},
		{"SqrtDown", fix.SqrtDown, 4 << 32, 2 << 32, api.OK},
		{"SqrtDown", fix.SqrtDown, -1, 0, api.ErrArg},
	} {
		n, e := x.of(x.a)
		same(t, x.name, []int{x.a}, n, e, x.want, x.e)
	}
}

// The chapter's examples of functions of two numbers (P1.1 to P1.3).
func TestExamplesOfTwo(t *testing.T) {
	for _, x := range []struct {
		name       string
		of         two
		a, b, want int
		e          api.Errno
	}{
		{"Add", fix.Add, 1, 2, 3, api.OK},
		{"Sub", fix.Sub, -1 << 52, 1, 0, api.ErrBig},
		{"MulDown", fix.MulDown, 3, 1 << 31, 1, api.OK},
		{"MulUp", fix.MulUp, 3, 1 << 31, 2, api.OK},
		{"MulDown", fix.MulDown, -3, 1 << 31, -2, api.OK},
		{"DivDown", fix.DivDown, 1 << 32, 3 << 32, 1431655765, api.OK},
		{"DivUp", fix.DivUp, 1 << 32, 3 << 32, 1431655766, api.OK},
		{"DivUp", fix.DivUp, 1, 0, 0, api.ErrZero},
		{"MulDown", fix.MulDown, 1 << 52, 1 << 52, 0, api.ErrBig},
	} {
		n, e := x.of(x.a, x.b)
		same(t, x.name, []int{x.a, x.b}, n, e, x.want, x.e)
	}
}

// The chapter's examples of functions of three numbers (P1.5).
func TestExamplesOfThree(t *testing.T) {
	for _, x := range []struct {
		name          string
		of            three
		a, n, d, want int
		e             api.Errno
	}{
		{"ScaleDown", fix.ScaleDown, 1 << 32, -1, 3, -1431655766, api.OK},
		{"ScaleUp", fix.ScaleUp, 1 << 32, -1, 3, -1431655765, api.OK},
		{"ScaleUp", fix.ScaleUp, 1, 1, 0, 0, api.ErrArg},
	} {
		n, e := x.of(x.a, x.n, x.d)
		same(t, x.name, []int{x.a, x.n, x.d}, n, e, x.want, x.e)
	}
}

// The chapter's examples of decimal numbers (P1.6).
func TestExamplesOfDec(t *testing.T) {
	for _, x := range []struct {
		n, digits, down, up int
		e                   api.Errno
	}{
		{125, 1, 53687091200, 53687091200, api.OK},
		{-1, 12, -1, 0, api.OK},
		{1 << 20, 0, 1 << 52, 1 << 52, api.OK},
		{1, 13, 0, 0, api.ErrArg},
	} {
		if down, up, e := fix.FromDec(x.n, x.digits); down != x.down || up != x.up || e != x.e {
			t.Errorf("FromDec(%d, %d): %d, %d, error %d", x.n, x.digits, down, up, e)
		}
	}
}

// The order of the errors: invalid arguments before divisions by 0, and both before results beyond the limit.
func TestOrderOfErrors(t *testing.T) {
	const far = api.MaxFix + 1
	for _, x := range []struct {
		name string
		of   two
		a, b int
		e    api.Errno
	}{
		{"Add", fix.Add, far, 1, api.ErrArg},
		{"Add", fix.Add, 1, far, api.ErrArg},
		{"Add", fix.Add, math.MaxInt, math.MaxInt, api.ErrArg},
		{"Sub", fix.Sub, far, far, api.ErrArg},
		{"Sub", fix.Sub, math.MinInt, math.MinInt, api.ErrArg},
		{"MulDown", fix.MulDown, far, 0, api.ErrArg},
		{"MulUp", fix.MulUp, 0, -far, api.ErrArg},
		{"MulUp", fix.MulUp, math.MaxInt, math.MinInt, api.ErrArg},
		{"DivDown", fix.DivDown, far, 0, api.ErrArg},
		{"DivUp", fix.DivUp, math.MinInt, 0, api.ErrArg},
		{"DivDown", fix.DivDown, 0, far, api.ErrArg},
		{"DivUp", fix.DivUp, 1, math.MinInt, api.ErrArg},
		{"DivDown", fix.DivDown, 0, 0, api.ErrZero},
		{"DivUp", fix.DivUp, api.MaxFix, 0, api.ErrZero},
	} {
		n, e := x.of(x.a, x.b)
		same(t, x.name, []int{x.a, x.b}, n, e, 0, x.e)
	}
}

// The limits of n, d and digits are checked before results beyond the limit.
func TestOrderOfErrorsOfScale(t *testing.T) {
	const far = api.MaxFix + 1
	for _, of := range []three{fix.ScaleDown, fix.ScaleUp} {
		for _, x := range []struct{ a, n, d int }{
			{far, 0, 1},
			{-far, 1, 1},
			{api.MaxFix, maxFactor + 1, 1},
			{api.MaxFix, -maxFactor - 1, 1},
			{api.MaxFix, math.MinInt, 1},
			{api.MaxFix, maxFactor, 0},
			{api.MaxFix, maxFactor, -1},
			{0, 0, maxFactor + 1},
			{0, 0, math.MinInt},
		} {
			n, e := of(x.a, x.n, x.d)
			same(t, "Scale", []int{x.a, x.n, x.d}, n, e, 0, api.ErrArg)
		}
	}
	for _, digits := range []int{-1, 13, math.MinInt, math.MaxInt} {
		if down, up, e := fix.FromDec(math.MaxInt, digits); down != 0 || up != 0 || e != api.ErrArg {
			t.Errorf("FromDec(MaxInt, %d): %d, %d, error %d", digits, down, up, e)
		}
	}
}
