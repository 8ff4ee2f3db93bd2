package vec

import (
	"monocle/api"
	"monocle/span"
)

// calculator does operations of span, and keeps the first error of all. It goes on after an error, with results that do not count.
type calculator struct {
	first api.Errno
}

// calculate returns a calculator for these arguments. They are all checked before the first operation, since ErrSpan comes ahead of the errors of operations.
func calculate(arguments ...api.Vec) *calculator {
	c := &calculator{}
	for _, a := range arguments {
		c.note(Check(a))
	}
	return c
}

// checked returns a result of c, or the zero value and the first error.
func checked[T any](c *calculator, result T) (T, api.Errno) {
	if c.first != api.OK {
		var none T
		return none, c.first
	}
	return result, api.OK
}

func (c *calculator) note(e api.Errno) {
	if c.first == api.OK {
		c.first = e
	}
}

func (c *calculator) keep(r api.Span, e api.Errno) api.Span {
	c.note(e)
	return r
}

func (c *calculator) add(x, y api.Span) api.Span { return c.keep(span.Add(x, y)) }
func (c *calculator) sub(x, y api.Span) api.Span { return c.keep(span.Sub(x, y)) }
func (c *calculator) mul(x, y api.Span) api.Span { return c.keep(span.Mul(x, y)) }
func (c *calculator) div(x, y api.Span) api.Span { return c.keep(span.Div(x, y)) }
func (c *calculator) neg(x api.Span) api.Span    { return c.keep(span.Neg(x)) }
func (c *calculator) sqr(x api.Span) api.Span    { return c.keep(span.Sqr(x)) }
func (c *calculator) sqrt(x api.Span) api.Span   { return c.keep(span.Sqrt(x)) }

// sum returns the sum of the components of a, which are added from the first one on.
func (c *calculator) sum(a api.Vec) api.Span {
	return c.add(c.add(a[0], a[1]), a[2])
}

func (c *calculator) norm(a api.Vec) api.Span {
	return c.sqrt(c.sum(each(c.sqr, a)))
}

// each returns the vector of the results of an operation on the components of a.
func each(operation func(x api.Span) api.Span, a api.Vec) api.Vec {
	return api.Vec{operation(a[0]), operation(a[1]), operation(a[2])}
}

// pairs returns the vector of the results of an operation on the components of a and those of b.
func pairs(operation func(x, y api.Span) api.Span, a, b api.Vec) api.Vec {
	return api.Vec{operation(a[0], b[0]), operation(a[1], b[1]), operation(a[2], b[2])}
}

// threeOf returns the vector with three components s.
func threeOf(s api.Span) api.Vec {
	return api.Vec{s, s, s}
}

// remade returns the interval with the ends of x. If x is not valid, there is none, and the interval of 0 alone, which is not x, stands for it.
func remade(x api.Span) api.Span {
	r, _ := span.Of(x.Lo, x.Hi)
	return r
}
