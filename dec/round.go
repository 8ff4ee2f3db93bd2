package dec

import (
	"monocle/api"
	"monocle/fix"
)

// maxPlaces is the greatest number of places to which fixed-point numbers are rounded.
const maxPlaces = 12

// rounding multiplies a fixed-point number by n / d, and rounds the product in its direction.
type rounding struct {
	scale func(a, n, d int) (int, api.Errno)
}

// roundingTo returns the rounding up, or down.
func roundingTo(up bool) rounding {
	directions := [...]rounding{{fix.ScaleDown}, {fix.ScaleUp}}
	if up {
		return directions[1]
	}
	return directions[0]
}

// multiple returns the number v / One, times unit, as a rounded integer.
// That may be no fixed-point number, but what the part of v behind the point adds to it is one.
func (r rounding) multiple(v, unit int) (int, api.Errno) {
	n, e := r.scale(v%api.One, unit, api.One)
	if e != api.OK {
		return 0, e
	}
	return v/api.One*unit + n, api.OK
}
