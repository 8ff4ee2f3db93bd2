package turn

import (
	"monocle/api"
	"monocle/long"
)

// firstPlaces is how many places of nine decimal digits suffice as a rule.
const firstPlaces = 6

// slack is more than the error of a sine, in units of its last decimal digit. For p of these digits it is less than 20 p, and long has no more than 5400 of them: a term is off by less than 1.4, and what a series leaves out at its end by less than 2.4. The series of a quarter of a turn have less than p terms, which count eightfold at most, and the sine has about as many again.
const slack = 1000000

// decimals does operations of long on numbers with so many places of nine decimal digits behind the point, and keeps the first error of all. It goes on after an error, with zeros that do not count. Results are rounded toward 0.
type decimals struct {
	places int
	first  api.Errno
}

func (c *decimals) keep(r api.Long, e api.Errno) api.Long {
	if c.first == api.OK {
		c.first = e
	}
	return r
}

// one returns the number 1.
func (c *decimals) one() api.Long {
	digits := make([]int, c.places+1)
	digits[c.places] = 1
	return api.Long{Digits: digits}
}

func (c *decimals) add(a, b api.Long) api.Long { return c.keep(long.Add(a, b)) }

// by returns a times n.
func (c *decimals) by(a api.Long, n int) api.Long { return c.keep(long.Mul(a, long.Of(n))) }

// over returns a divided by n, which is not 0.
func (c *decimals) over(a api.Long, n int) api.Long {
	quotient, _, e := long.Div(a, long.Of(n))
	return c.keep(quotient, e)
}

// times returns the product of a and b.
func (c *decimals) times(a, b api.Long) api.Long { return c.whole(c.keep(long.Mul(a, b))) }

// whole returns a without its places behind the point. Digits of long count powers of 10^9, so they are just left out.
func (c *decimals) whole(a api.Long) api.Long {
	digits := a.Digits[min(c.places, len(a.Digits)):]
	return api.Long{Neg: a.Neg && len(digits) > 0, Digits: digits}
}

// units returns a in units of 1 / One.
func (c *decimals) units(a api.Long) int {
	n, e := long.Int(c.whole(c.by(a, api.One)))
	c.keep(api.Long{}, e)
	return n
}

// sum returns the sum of a series with alternating signs: of its first term, and those from the term 1 on, up to the last one that is not 0.
func (c *decimals) sum(first api.Long, next func(k int) api.Long) api.Long {
	total := first
	for k := 1; ; k++ {
		term := next(k)
		if len(term.Digits) == 0 {
			return total
		}
		total = c.add(total, term)
	}
}

// arctangent returns the arctangent of 1 / n.
func (c *decimals) arctangent(n int) api.Long {
	power := c.over(c.one(), n)
	return c.sum(power, func(k int) api.Long {
		power = c.over(power, -n*n)
		return c.over(power, 2*k+1)
	})
}

// quarterTurn returns a quarter of a turn in radians. Its first places are given, since to compute them would take most of the time of a sine.
func (c *decimals) quarterTurn() api.Long {
	if c.places == firstPlaces {
		return api.Long{Digits: []int{687552910, 98584699, 639751442, 231321691, 794896619, 570796326, 1}}
	}
	return c.machin()
}

// machin computes a quarter of a turn in radians, by Machin's formula.
func (c *decimals) machin() api.Long {
	return c.add(c.by(c.arctangent(5), 8), c.by(c.arctangent(239), -2))
}

// sine returns the sine of part / d of a quarter of a turn.
func (c *decimals) sine(part, d int) api.Long {
	x := c.over(c.by(c.quarterTurn(), part), d)
	square := c.times(x, x)
	term := x
	return c.sum(x, func(k int) api.Long {
		term = c.over(c.times(term, square), -2*k*(2*k+1))
		return term
	})
}

// roundedDown returns the sine of part / d of a quarter of a turn in units of 1 / One, rounded down, for an irrational one. It begins with so many places, and takes more of them until all numbers within the slack agree. A sine is at least part / d, and so at least a unit: where they agree, none is negative, and rounding toward 0 is rounding down.
func roundedDown(part, d, places int) (int, api.Errno) {
more:
	for ; ; places *= 2 {
		c := &decimals{places: places}
		s := c.sine(part, d)
		down := c.units(s)
		for _, off := range [...]int{-slack, slack} {
			end := c.units(c.add(s, long.Of(off)))
			if c.first != api.OK {
				return 0, c.first
			}
			if end != down {
				continue more
			}
		}
		return down, api.OK
	}
}
