package vec_test

import (
	"testing"

	"monocle/api"
	"monocle/vec"
)

// The chapter's examples (P6.1 to P6.3).
func TestExamples(t *testing.T) {
	up, down := whole(1, 2, 3), whole(4, 5, 6)
	for _, x := range []struct {
		name       string
		a, b, want api.Vec
		e          api.Errno
	}{
		{"Add", up, down, whole(5, 7, 9), api.OK},
		{"Sub", up, down, whole(-3, -3, -3), api.OK},
		{"Neg", up, api.Vec{}, whole(-1, -2, -3), api.OK},
		{"Scale", up, whole(2, 0, 0), whole(2, 4, 6), api.OK},
		{"Dot", up, down, whole(32, 0, 0), api.OK},
		{"Cross", whole(1, 0, 0), whole(0, 1, 0), whole(0, 0, 1), api.OK},
		{"Cross", whole(0, 1, 0), whole(1, 0, 0), whole(0, 0, -1), api.OK},
		{"Norm", whole(2, 3, 6), api.Vec{}, whole(7, 0, 0), api.OK},
		{"Unit", whole(0, 0, -4), api.Vec{}, whole(0, 0, -1), api.OK},
		{"Unit", whole(0, 0, 0), api.Vec{}, api.Vec{}, api.ErrZero},
		{"Dot", whole(1024, 0, 0), whole(1025, 0, 0), api.Vec{}, api.ErrBig},
	} {
		named(t, x.name).same(t, x.a, x.b, x.want, x.e)
	}
	if e := vec.Check(api.Vec{{Lo: 1, Hi: 0}}); e != api.ErrSpan {
		t.Errorf("Check: error %d", e)
	}
}

// All other components of cross products, and those of vectors that are not along an axis (P6.2).
func TestCrossOfWholeNumbers(t *testing.T) {
	x, y, z := whole(1, 0, 0), whole(0, 1, 0), whole(0, 0, 1)
	for _, c := range [][3]api.Vec{
		{y, z, x}, {z, x, y}, {z, y, whole(-1, 0, 0)}, {x, z, whole(0, -1, 0)}, {x, x, {}},
		{whole(1, 2, 3), whole(4, 5, 6), whole(-3, 6, -3)}, {whole(-2, 3, 7), whole(5, -1, 4), whole(19, 43, -13)},
	} {
		named(t, "Cross").same(t, c[0], c[1], c[2], api.OK)
	}
}

// named returns the operation with a name.
func named(t *testing.T, name string) operation {
	t.Helper()
	for _, o := range operations() {
		if o.name == name {
			return o
		}
	}
	t.Fatalf("there is no operation %s", name)
	return operation{}
}
