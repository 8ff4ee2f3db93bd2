package long

import (
	"math/bits"
	"slices"
)

// divisor returns the greatest common divisor of a and b, and 0 for 0 and 0. It takes many steps of Euclid's algorithm at once where it can, which saves most of the work (Lehmer).
func (a digits) divisor(b digits) digits {
	if a.compare(b) < 0 {
		a, b = b, a
	}
	if len(b) > 2 {
		a, b = slices.Clone(a).shortened(slices.Clone(b))
	}
	if len(b) == 0 {
		return slices.Clone(a)
	}
	_, rest := a.divided(b)
	n, m := b.small(), rest.small()
	for m != 0 {
		n, m = m, n%m
	}
	return ofSmall(n)
}

// shortened returns two numbers with the same common divisors as a and b, the second of which has at most two digits. It may write to the memory of a and b.
func (a digits) shortened(b digits) (digits, digits) {
	for len(b) > 2 {
		s := firstSteps(a.leading(b))
		if s.b0 == 0 {
			_, rest := a.divided(b)
			a, b = b, rest
			continue
		}
		a, b = s.taken(a, b)
	}
	return a, b
}

// leading returns the first 18 decimal digits of a, which has at least three digits, and what b, which is not greater, has at their places.
func (a digits) leading(b digits) (int, int) {
	n := len(a)
	scale := 1
	for scale <= a[n-1] {
		scale *= 10
	}
	first := func(d digits) int {
		var top [3]int
		copy(top[:], d[min(n-3, len(d)):])
		hi, lo := bits.Mul64(uint64(top[2]*base+top[1]), base)
		lo, carry := bits.Add64(lo, uint64(top[0]), 0)
		q, _ := bits.Div64(hi+carry, lo, uint64(scale))
		return int(q)
	}
	return first(a), first(b)
}

// steps are what some steps of Euclid's algorithm make of two numbers a and b: a0 * a - b0 * b and b1 * b - a1 * a after an even number of steps, and the negatives of these after an odd one.
type steps struct {
	a0, b0, a1, b1 int
	odd            bool
}

// firstSteps returns the steps that all numbers with the leading digits x and y, of which x has at most 18, have in common (b0 is 0 if there are none that help). The condition is that of Collins and Jebelean: with it the next quotient is the same for all these numbers. It also keeps the factors below base: their squares are at most the product of a factor and the greater number of its step, and so less than base * base.
func firstSteps(x, y int) steps {
	s := steps{a1: 1, odd: true}
	a2, b2 := 0, 1
	for y >= b2 && x-y >= s.b1+b2 {
		q := x / y
		x, y = y, x%y
		s.a0, s.a1, a2 = s.a1, a2, s.a1+q*a2
		s.b0, s.b1, b2 = s.b1, b2, s.b1+q*b2
		s.odd = !s.odd
	}
	return s
}

// taken returns what the steps make of a and b, in their memory. Neither result is greater than b.
func (s steps) taken(a, b digits) (digits, digits) {
	if s.odd {
		s = steps{a0: -s.a0, b0: -s.b0, a1: -s.a1, b1: -s.b1}
	}
	var carryA, carryB int
	for i, y := range b {
		x := a[i]
		a[i], carryA = floorDigit(s.a0*x - s.b0*y + carryA)
		b[i], carryB = floorDigit(s.b1*y - s.a1*x + carryB)
	}
	return a[:len(b)].trimmed(), b.trimmed()
}

// floorDigit returns the digit of n, and what is to be carried to the next place.
func floorDigit(n int) (digit, carry int) {
	digit, carry = n%base, n/base
	if digit < 0 {
		return digit + base, carry - 1
	}
	return digit, carry
}
