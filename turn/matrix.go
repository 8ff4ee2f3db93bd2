package turn

import (
	"iter"

	"monocle/api"
	"monocle/span"
	"monocle/vec"
)

// unturned is the matrix that changes nothing.
var unturned = api.Rot{
	{{Lo: api.One, Hi: api.One}, {}, {}},
	{{}, {Lo: api.One, Hi: api.One}, {}},
	{{}, {}, {Lo: api.One, Hi: api.One}},
}

// about returns the matrix about an axis, which is 0 for x, 1 for y and 2 for z, for an angle in units of 10^-6 degree.
func about(axis, angle int) (api.Rot, api.Errno) {
	s, e := Sine(angle, api.MaxDegrees)
	if e != api.OK {
		return api.Rot{}, e
	}
	c, e := Cosine(angle, api.MaxDegrees)
	if e != api.OK {
		return api.Rot{}, e
	}
	minus, e := span.Neg(s)
	if e != api.OK {
		return api.Rot{}, e
	}
	i, j := (axis+1)%3, (axis+2)%3
	r := unturned
	r[i][i], r[i][j] = c, minus
	r[j][i], r[j][j] = s, c
	return r, api.OK
}

// rows yields the rows of r, with their indices.
func rows(r api.Rot) iter.Seq2[int, api.Vec] {
	return func(yield func(int, api.Vec) bool) {
		for i, row := range r {
			if !yield(i, row) {
				return
			}
		}
	}
}

// columns yields the columns of r, with their indices.
func columns(r api.Rot) iter.Seq2[int, api.Vec] {
	return func(yield func(int, api.Vec) bool) {
		for j := range r {
			if !yield(j, api.Vec{r[0][j], r[1][j], r[2][j]}) {
				return
			}
		}
	}
}

// dots returns the vector of the dot products of three lines and v.
func dots(lines iter.Seq2[int, api.Vec], v api.Vec) (api.Vec, api.Errno) {
	var r api.Vec
	for k, line := range lines {
		s, e := vec.Dot(line, v)
		if e != api.OK {
			return api.Vec{}, e
		}
		r[k] = s
	}
	return r, api.OK
}

// product returns the product of two valid matrices.
func product(a, b api.Rot) (api.Rot, api.Errno) {
	var r api.Rot
	for i, row := range rows(a) {
		line, e := dots(columns(b), row)
		if e != api.OK {
			return api.Rot{}, e
		}
		r[i] = line
	}
	return r, api.OK
}
