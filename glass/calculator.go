package glass

import (
	"monocle/api"
	"monocle/long"
	"monocle/quot"
)

// calculator makes exact numbers of a valid glass at a wavelength. It leaves by a panic with an error.
type calculator struct {
	api.Glass
	w api.Quot // the square of the wavelength in micrometres
}

// at returns the calculator for a wavelength, and leaves with ErrArg if the formula does not hold for it.
func at(g api.Glass, length int) calculator {
	if length < g.Low || length > g.High {
		panic(api.ErrArg)
	}
	return calculator{Glass: g, w: ratio(length*length, 1000000000000)}
}

// square returns the square of the glass.
func (c calculator) square() api.Quot {
	formulas := [...]func(calculator) api.Quot{
		api.FSellmeier: calculator.sellmeier,
		api.FCauchy:    calculator.cauchySquared,
		api.FSchott:    calculator.schott,
	}
	return formulas[c.Formula](c)
}

func (c calculator) sellmeier() api.Quot {
	return sum(ratio(1, 1), c.resonance(0), c.resonance(2), c.resonance(4))
}

// resonance returns the term of Sellmeier's formula with the coefficients k and k + 1.
func (c calculator) resonance(k int) api.Quot {
	return over(times(c.coefficient(k), c.w), must(quot.Sub(c.w, c.coefficient(k+1))))
}

func (c calculator) cauchySquared() api.Quot {
	root := c.cauchy()
	return times(root, root)
}

func (c calculator) cauchy() api.Quot {
	return sum(
		c.coefficient(0),
		over(c.coefficient(1), c.w),
		over(c.coefficient(2), c.w, c.w),
	)
}

func (c calculator) schott() api.Quot {
	return sum(
		c.coefficient(0),
		times(c.coefficient(1), c.w),
		over(c.coefficient(2), c.w),
		over(c.coefficient(3), c.w, c.w),
		over(c.coefficient(4), c.w, c.w, c.w),
		over(c.coefficient(5), c.w, c.w, c.w, c.w),
	)
}

func (c calculator) coefficient(k int) api.Quot { return ratio(c.Coef[k], 1000000000) }

// index returns the index of the glass, and leaves with ErrBig if there is none.
func (c calculator) index() int {
	square := c.square()
	if negative(square) || c.Formula == api.FCauchy && negative(c.cauchy()) {
		panic(api.ErrBig)
	}
	n := nearestRoot(square)
	if n < api.MinIndex || n > api.MaxIndex {
		panic(api.ErrBig)
	}
	return n
}

// nearestRoot returns the whole number that is nearest to 10^7 times the root of a square. Its double, rounded down, still tells whether it is half a unit or more beyond a whole number.
func nearestRoot(square api.Quot) int {
	doubled := must(long.Sqrt(must(quot.Floor(times(square, ratio(4*one*one, 1))))))
	return (must(long.Int(doubled)) + 1) / 2
}

func negative(a api.Quot) bool { return must(quot.Sign(a)) < 0 }

// ratio returns n / d, and leaves with ErrZero if d is 0.
func ratio(n, d int) api.Quot { return must(quot.Of(n, d)) }

func sum(terms ...api.Quot) api.Quot {
	total := ratio(0, 1)
	for _, t := range terms {
		total = must(quot.Add(total, t))
	}
	return total
}

func times(a, b api.Quot) api.Quot { return must(quot.Mul(a, b)) }

// over returns a, divided by each of the divisors.
func over(a api.Quot, divisors ...api.Quot) api.Quot {
	for _, d := range divisors {
		a = must(quot.Div(a, d))
	}
	return a
}

// must returns the result of an operation, and leaves with its error.
func must[R any](r R, e api.Errno) R {
	if e != api.OK {
		panic(e)
	}
	return r
}
