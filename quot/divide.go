package quot

import "monocle/api"

// split returns the greatest integer that is at most a, and the numerator of the rest.
func (a fraction) split() (whole, part number) {
	whole, part = a.numerator.divided(a.denominator)
	if part.sign() < 0 {
		whole, part = whole.minus(of(1)), part.plus(a.denominator)
	}
	return whole, part
}

// floor returns the greatest integer that is at most a.
func (a fraction) floor() (api.Long, api.Errno) {
	whole, _ := a.split()
	return whole.Long, whole.e
}

// places is the base of the digits by which fractions are compared.
const places = 1000000000000000000

// compare returns -1, 0 or 1 if a is less than, equal to, or greater than b. Products might be too long, so it divides, until the integers below a and b or digits behind these differ.
func (a fraction) compare(b fraction) (order int, e api.Errno) {
	if a.numerator.compare(b.numerator) == 0 && a.denominator.compare(b.denominator) == 0 {
		return 0, api.OK
	}
	digitA, restA := a.split()
	digitB, restB := b.split()
division:
	for {
		switch order = digitA.compare(digitB); order {
		case 0:
			digitA, restA = a.portion(restA, of(places))
			digitB, restB = b.portion(restB, of(places))
		default:
			break division
		}
	}
	return order, api.OK
}

// scaled returns the greatest integer that is at most a * n, and the rest as a numerator over the denominator of a. n is a positive int.
func (a fraction) scaled(n number) (whole, rest number) {
	whole, part := a.split()
	count, rest := a.portion(part, n)
	return whole.times(n).plus(count), rest
}

// portion returns the quotient of part * n and the denominator, and the rest, for a part that is less than the denominator.
func (a fraction) portion(part, n number) (count, rest number) {
	if product := part.times(n); product.e == api.OK {
		return product.divided(a.denominator)
	}
	// The denominator is n steps, and less than n beyond them. Since it is far greater than n * n, the steps in the part are as many as the quotient, or one more.
	step, beyond := a.denominator.divided(n)
	count, left := part.divided(step)
	rest = left.times(n).minus(count.times(beyond))
	if rest.sign() < 0 {
		count, rest = count.minus(of(1)), rest.plus(a.denominator)
	}
	return count, rest
}
