package quot

import (
	"cmp"
	"slices"

	"monocle/api"
)

// The two numbers of a fraction.
type (
	numerator   = number
	denominator = number
)

// fraction is a fraction in lowest terms that is computed. Its operations meet no number that is too long unless the result has one, and so an error of a number is that of the result.
type fraction struct {
	numerator
	denominator
}

// given returns the fraction of an argument.
func given(a api.Quot) fraction {
	return fraction{number{Long: a.N}, number{Long: a.D}}
}

// inLowestTerms tells whether the numbers of a are those of a valid fraction. A number that is not valid has no divisor.
func (a fraction) inLowestTerms() bool {
	return a.denominator.sign() > 0 && a.numerator.divisor(a.denominator).isOne()
}

// reduced returns the fraction n / d, for d other than 0.
func reduced(n, d number) fraction {
	common := n.divisor(d)
	common.Neg = d.Neg
	takeOut := func(a number) number { return a.over(common) }
	return fraction{takeOut(n), takeOut(d)}
}

// parts returns what a result consists of, and the error of its numbers.
func (a fraction) parts() (api.Quot, api.Errno) {
	return api.Quot{N: a.numerator.Long, D: a.denominator.Long}, cmp.Or(a.numerator.e, a.denominator.e)
}

// signed returns a with that sign, in memory of its own.
func (a fraction) signed(neg bool) fraction {
	n := api.Long{Neg: neg && a.numerator.sign() != 0, Digits: slices.Clone(a.numerator.Digits)}
	d := api.Long{Digits: slices.Clone(a.denominator.Digits)}
	return given(api.Quot{N: n, D: d})
}

// negative returns the negative.
func (a fraction) negative() (api.Quot, api.Errno) {
	return a.signed(!a.numerator.Neg).parts()
}

// absolute returns the absolute value.
func (a fraction) absolute() (api.Quot, api.Errno) {
	return a.signed(false).parts()
}

// sign returns the sign of a.
func (a fraction) sign() (int, api.Errno) {
	return a.numerator.sign(), api.OK
}

// times returns the product.
func (a fraction) times(b fraction) (api.Quot, api.Errno) {
	x := reduced(a.numerator, b.denominator)
	y := reduced(b.numerator, a.denominator)
	return fraction{x.numerator.times(y.numerator), x.denominator.times(y.denominator)}.parts()
}

// over returns the quotient, or ErrZero.
func (a fraction) over(b fraction) (api.Quot, api.Errno) {
	if b.numerator.sign() == 0 {
		return api.Quot{}, api.ErrZero
	}
	n := api.Long{Neg: b.numerator.Neg, Digits: b.denominator.Digits}
	d := api.Long{Digits: b.numerator.Digits}
	return a.times(given(api.Quot{N: n, D: d}))
}

// plus returns the sum.
func (a fraction) plus(b fraction) (api.Quot, api.Errno) {
	return a.minus(b.signed(!b.numerator.Neg))
}

// minus returns the difference. If the denominators are p g and q g, with p and q without a common divisor, then a common divisor of the numerator a q - b p and of the denominator p q g divides g (Knuth, section 4.5.1).
func (a fraction) minus(b fraction) (api.Quot, api.Errno) {
	common := a.denominator.divisor(b.denominator)
	takeOut := func(n number) number { return n.over(common) }
	p, q := takeOut(a.denominator), takeOut(b.denominator)
	n := a.numerator.times(q).minus(b.numerator.times(p))
	if n.e != api.OK {
		return a.minusLong(b, p, q, common)
	}
	divisor := n.divisor(common)
	return fraction{n.over(divisor), p.times(b.denominator.over(divisor))}.parts()
}

// minusLong does the same where a q or b p are too long. It subtracts the integers of both apart from what is left of them, which is from 0 to 1. So its products are no greater than a denominator of a, of b or of the difference, but for the last one, which is no greater than the numerator of the difference.
func (a fraction) minusLong(b fraction, p, q, common number) (api.Quot, api.Errno) {
	wholeA, partA := a.split()
	wholeB, partB := b.split()
	timesA, restA := partA.divided(common)
	timesB, restB := partB.divided(common)
	rest := restA.times(q).minus(restB.times(p))
	divisor := rest.divisor(common)
	d := p.times(b.denominator.over(divisor))
	multiple := timesA.times(q).minus(timesB.times(p)).times(common.over(divisor))
	whole, part := wholeA.minus(wholeB), multiple.plus(rest.over(divisor))
	switch one := of(whole.sign()); { // with one sign for both, their sum is no shorter than they are
	case whole.sign() > 0 && part.sign() < 0:
		whole, part = whole.minus(one), part.plus(d)
	case whole.sign() < 0 && part.sign() > 0:
		whole, part = whole.minus(one), part.minus(d)
	}
	return fraction{whole.times(d).plus(part), d}.parts()
}
