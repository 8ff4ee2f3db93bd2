package turn

import (
	"monocle/api"
	"monocle/span"
)

// quarter says how the sines of a quarter of the turn follow from those of the first one.
type quarter struct {
	part func(rest, d int) int                  // of the first quarter, with the same sine but for its sign, for rest / d of this one
	sign func(s api.Span) (api.Span, api.Errno) // gives an interval the sign of the sines
}

// sine returns the smallest interval that contains the sine of n / d of a turn and some quarters, or ErrArg if d is not from 1 to MaxTurn.
func sine(n, d, more int) (api.Span, api.Errno) {
	if d < 1 || d > api.MaxTurn {
		return api.Span{}, api.ErrArg
	}
	n %= d
	if n < 0 {
		n += d
	}
	quarters := [...]quarter{{rising, positive}, {falling, positive}, {rising, span.Neg}, {falling, span.Neg}}
	q := quarters[(4*n/d+more)%len(quarters)]
	s, e := acute(q.part(4*n%d, d), d)
	if e != api.OK {
		return api.Span{}, e
	}
	return q.sign(s)
}

func rising(rest, d int) int  { return rest }
func falling(rest, d int) int { return d - rest }

func positive(s api.Span) (api.Span, api.Errno) { return s, api.OK }

// acute returns the smallest interval that contains the sine of part / d of a quarter of a turn, for a part from 0 to d. The sines of a third and of the ends are the only rational ones, so no other one is a fixed-point number.
func acute(part, d int) (api.Span, api.Errno) {
	switch part {
	case 0:
		return span.Point(0)
	case d:
		return span.Point(api.One)
	}
	if 3*part == d {
		return span.Point(api.One / 2)
	}
	down, e := roundedDown(part, d, firstPlaces)
	if e != api.OK {
		return api.Span{}, e
	}
	return span.Of(down, down+1)
}
