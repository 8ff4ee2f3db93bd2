package turn_test

import (
	"testing"

	"monocle/api"
	"monocle/turn"
)

// The chapter's examples of sines and cosines (P7.1).
func TestExamplesOfSines(t *testing.T) {
	for _, x := range []struct {
		name   string
		of     func(n, d int) (api.Span, api.Errno)
		n, d   int
		lo, hi int
		e      api.Errno
	}{
		{"Sine", turn.Sine, 1, 4, api.One, api.One, api.OK},
		{"Sine", turn.Sine, 1, 12, api.One / 2, api.One / 2, api.OK},
		{"Cosine", turn.Cosine, 1, 3, -api.One / 2, -api.One / 2, api.OK},
		{"Sine", turn.Sine, 0, 7, 0, 0, api.OK},
		{"Sine", turn.Sine, 1, 8, 3037000499, 3037000500, api.OK},
		{"Cosine", turn.Cosine, 3, 8, -3037000500, -3037000499, api.OK},
		{"Sine", turn.Sine, -1, 6, -3719550787, -3719550786, api.OK},
		{"Sine", turn.Sine, 1, 1 << 32, 6, 7, api.OK},
		{"Sine", turn.Sine, 1, 0, 0, 0, api.ErrArg},
		{"Sine", turn.Sine, 1, 1<<32 + 1, 0, 0, api.ErrArg},
	} {
		if s, e := x.of(x.n, x.d); s.Lo != x.lo || s.Hi != x.hi || e != x.e {
			t.Errorf("%s(%d, %d): %v, error %d; want %d, %d, error %d", x.name, x.n, x.d, s, e, x.lo, x.hi, x.e)
		}
	}
}

// The chapter's examples of rotations (P7.2, P7.3).
func TestExamplesOfRotations(t *testing.T) {
	if r, e := turn.Rotation(360000001, 0, 0); r != (api.Rot{}) || e != api.ErrArg {
		t.Errorf("Rotation(360000001, 0, 0): %v, error %d", r, e)
	}
	if r, e := turn.Rotation(0, 0, 90000000); r != (api.Rot{whole(0, -1, 0), whole(1, 0, 0), whole(0, 0, 1)}) || e != api.OK {
		t.Errorf("Rotation(0, 0, 90000000): %v, error %d", r, e)
	}
	r, e := turn.Rotation(90000000, 0, 90000000)
	if e != api.OK {
		t.Fatalf("Rotation(90000000, 0, 90000000): error %d", e)
	}
	if v, e := turn.Turn(r, whole(0, 1, 0)); v != whole(0, 0, 1) || e != api.OK {
		t.Errorf("Turn: %v, error %d", v, e)
	}
	if v, e := turn.Back(r, whole(0, 1, 0)); v != whole(1, 0, 0) || e != api.OK {
		t.Errorf("Back: %v, error %d", v, e)
	}
}

// A quarter of a turn about each axis takes the next axis into the one after it (P7.2).
func TestQuarterTurns(t *testing.T) {
	const right = 90000000
	x, y, z := whole(1, 0, 0), whole(0, 1, 0), whole(0, 0, 1)
	for _, q := range []struct {
		ax, ay, az           int
		around, before, next api.Vec
	}{
		{right, 0, 0, x, y, z},
		{0, right, 0, y, z, x},
		{0, 0, right, z, x, y},
	} {
		for _, turned := range [][3]int{{q.ax, q.ay, q.az}, {-3 * q.ax, -3 * q.ay, -3 * q.az}} {
			r, e := turn.Rotation(turned[0], turned[1], turned[2])
			if e != api.OK {
				t.Fatalf("Rotation of %v: error %d", turned, e)
			}
			for _, p := range [][2]api.Vec{{q.around, q.around}, {q.before, q.next}, {whole(2, 2, 2), turnedTwos(q.around)}} {
				if v, e := turn.Turn(r, p[0]); v != p[1] || e != api.OK {
					t.Errorf("%v turns %v into %v, error %d; want %v", turned, p[0], v, e, p[1])
				}
				if v, e := turn.Back(r, p[1]); v != p[0] || e != api.OK {
					t.Errorf("%v turns %v back into %v, error %d; want %v", turned, p[1], v, e, p[0])
				}
			}
		}
	}
}

// turnedTwos returns the vector into which (2, 2, 2) is turned by a quarter of a turn about an axis.
func turnedTwos(axis api.Vec) api.Vec {
	switch axis {
	case whole(1, 0, 0):
		return whole(2, -2, 2)
	case whole(0, 1, 0):
		return whole(2, 2, -2)
	}
	return whole(-2, 2, 2)
}
