package turn

import (
	"math/rand/v2"
	"testing"

	"monocle/api"
	"monocle/long"
)

// somePart returns a part of a quarter of a turn with an irrational sine.
func somePart(source *rand.Rand) (part, d int) {
	for {
		d = 2 + source.IntN(api.MaxTurn-1)>>source.IntN(31)
		part = 1 + source.IntN(d-1)>>source.IntN(32)
		if part < d && 3*part != d {
			return part, d
		}
	}
}

// The number of places at the start does not matter (P7.1): one place never suffices, since the slack is more than a unit, and so the loop is run through again.
func TestMorePlaces(t *testing.T) {
	source := rand.New(rand.NewPCG(1, 1))
	for range 2000 {
		part, d := somePart(source)
		want, e := roundedDown(part, d, firstPlaces)
		if e != api.OK {
			t.Fatalf("%d / %d: error %d", part, d, e)
		}
		for _, places := range []int{1, 2, 3, 20} {
			if n, e := roundedDown(part, d, places); n != want || e != api.OK {
				t.Errorf("%d / %d with %d places: %d, error %d; want %d", part, d, places, n, e, want)
			}
		}
	}
}

// These sines are so little below a unit that they are above it with two places, in which case more of them are taken (P7.1).
func TestMisleadingPlaces(t *testing.T) {
	for _, x := range [][2]int{{992632543, 2235685523}, {918515365, 1350529580}, {634844957, 1853857329}, {3237333424, 3237333426}, {120590637, 185102837}} {
		want, e := roundedDown(x[0], x[1], firstPlaces)
		few := &decimals{places: 2}
		if above := few.units(few.sine(x[0], x[1])); above != want+1 || e != api.OK {
			t.Errorf("%v: %d with two places, error %d; want %d", x, above, e, want+1)
		}
		if n, e := roundedDown(x[0], x[1], 2); n != want || e != api.OK {
			t.Errorf("%v: %d, error %d; want %d", x, n, e, want)
		}
	}
}

// The given places of a quarter of a turn are those that are computed from more of them.
func TestGivenPlaces(t *testing.T) {
	given, fine := &decimals{places: firstPlaces}, &decimals{places: firstPlaces + 2}
	want := fine.machin()
	want.Digits = want.Digits[2:]
	if q := given.quarterTurn(); !long.Same(q, want) || given.first != api.OK || fine.first != api.OK {
		t.Errorf("%v; want %v, errors %d, %d", q, want, given.first, fine.first)
	}
}

// If products become too long for long, which happens at the latest with 384 places, that is reported, and the loop ends.
func TestTooManyPlaces(t *testing.T) {
	for _, places := range []int{6 << 6, 599} {
		if n, e := roundedDown(1, 5, places); n != 0 || e != api.ErrBig {
			t.Errorf("%d places: %d, error %d", places, n, e)
		}
	}
}

// The error of a sine is below 20 units for each decimal digit, which is much less than the slack.
func TestErrorsOfSines(t *testing.T) {
	source := rand.New(rand.NewPCG(2, 2))
	for range 400 {
		part, d := somePart(source)
		for _, places := range []int{1, 2, firstPlaces, 13} {
			c, fine := &decimals{places: places}, &decimals{places: places + 2}
			exact := fine.sine(part, d)
			exact.Digits = exact.Digits[min(2, len(exact.Digits)):] // within a unit
			off, e := long.Sub(c.sine(part, d), exact)
			n, f := long.Int(off)
			if most := 20 * 9 * places; e != api.OK || f != api.OK || n < -most || n > most || most >= slack {
				t.Errorf("%d / %d with %d places: off by %v, errors %d, %d", part, d, places, off, e, f)
			}
		}
	}
}
