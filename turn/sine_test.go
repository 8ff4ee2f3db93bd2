package turn_test

import (
	"math"
	"testing"

	"monocle/api"
	"monocle/turn"
)

// P7.1: all angles with a small divisor, over several turns in both directions.
func TestSmallDivisors(t *testing.T) {
	for d := 1; d <= 48; d++ {
		for n := -2 * d; n <= 2*d; n++ {
			compare(t, n, d)
		}
	}
}

// P7.1: angles of any size and both signs.
func TestAngles(t *testing.T) {
	for _, a := range angles(1, 8000) {
		compare(t, a[0], a[1])
	}
}

// P7.1: angles just beside multiples of a quarter, and of a twelfth, where sines are rational, or nearly so.
func TestNearQuarters(t *testing.T) {
	for _, d := range []int{1, 2, 3, 4, 1000, 360000000, 1<<31 - 1, 1 << 31, api.MaxTurn - 5, api.MaxTurn - 4, api.MaxTurn - 3, api.MaxTurn - 2, api.MaxTurn - 1, api.MaxTurn} {
		for twelfth := -14; twelfth <= 14; twelfth++ {
			for off := -3; off <= 3; off++ {
				compare(t, twelfth*d/12+off, d)
			}
		}
	}
}

// P7.1: any n may be given, also the ends of int.
func TestAnyNumerator(t *testing.T) {
	for _, d := range []int{1, 2, 3, 4, 6, 7, 12, 100, 360000000, api.MaxTurn - 1, api.MaxTurn} {
		for off := range 8 {
			compare(t, math.MinInt+off, d)
			compare(t, math.MaxInt-off, d)
		}
	}
}

// P7.1: the divisor is from 1 to MaxTurn.
func TestLimitsOfDivisors(t *testing.T) {
	for _, n := range []int{math.MinInt, -5, 0, 1, math.MaxInt} {
		for _, d := range []int{math.MinInt, -api.MaxTurn, -4, -1, 0, api.MaxTurn + 1, api.MaxTurn + 4, math.MaxInt} {
			if s, e := turn.Sine(n, d); s != (api.Span{}) || e != api.ErrArg {
				t.Errorf("Sine(%d, %d): %v, error %d", n, d, s, e)
			}
			if s, e := turn.Cosine(n, d); s != (api.Span{}) || e != api.ErrArg {
				t.Errorf("Cosine(%d, %d): %v, error %d", n, d, s, e)
			}
		}
		for _, d := range []int{1, api.MaxTurn} {
			compare(t, n, d)
		}
	}
}

// P7.1: the ends are the same if the number is rational, and one apart otherwise.
func TestWidths(t *testing.T) {
	for d := 1; d <= 400; d++ {
		for n := range d {
			s, _ := turn.Sine(n, d)
			c, _ := turn.Cosine(n, d)
			if (s.Lo == s.Hi) != (rational(n, d, 0) != none) || s.Hi-s.Lo > 1 {
				t.Errorf("Sine(%d, %d): %v", n, d, s)
			}
			if (c.Lo == c.Hi) != (rational(n, d, 3) != none) || c.Hi-c.Lo > 1 {
				t.Errorf("Cosine(%d, %d): %v", n, d, c)
			}
		}
	}
}
