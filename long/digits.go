package long

// base is what digits count powers of.
const base = 1000000000

// digits are those of a number without its sign, from the least significant one on; the last one is not 0.
type digits []int

// valid tells whether all digits are in their range, and the last one is not 0.
func (a digits) valid() bool {
	for _, d := range a {
		if d < 0 || d >= base {
			return false
		}
	}
	return len(a) == 0 || a[len(a)-1] != 0
}

// trimmed returns a without the zeros at its end.
func (a digits) trimmed() digits {
	n := len(a)
	for n > 0 && a[n-1] == 0 {
		n--
	}
	return a[:n]
}

// compare returns -1, 0 or 1 if a is less than, equal to, or greater than b.
func (a digits) compare(b digits) int {
	if len(a) != len(b) {
		if len(a) < len(b) {
			return -1
		}
		return 1
	}
	for i := len(a) - 1; i >= 0; i-- {
		if a[i] != b[i] {
			if a[i] < b[i] {
				return -1
			}
			return 1
		}
	}
	return 0
}

// plus returns the sum.
func (a digits) plus(b digits) digits {
	if len(a) < len(b) {
		a, b = b, a
	}
	sum := make(digits, len(a)+1)
	copy(sum, a)
	carry := 0
	for i := range sum {
		if i < len(b) {
			carry += b[i]
		} else if carry == 0 {
			break // the other digits are those of a
		}
		carry += sum[i]
		sum[i], carry = carry%base, carry/base
	}
	return sum.trimmed()
}

// minus returns the difference; b is at most a.
func (a digits) minus(b digits) digits {
	rest := make(digits, len(a))
	copy(rest, a)
	borrow := 0
	for i := range rest {
		if i < len(b) {
			borrow += b[i]
		} else if borrow == 0 {
			break // the other digits are those of a
		}
		rest[i] -= borrow
		borrow = 0
		if rest[i] < 0 {
			rest[i] += base
			borrow = 1
		}
	}
	return rest.trimmed()
}

// times returns the product. It goes by places of the product, to divide once a place instead of once a pair of digits.
func (a digits) times(b digits) digits {
	// The sum at a place is kept below fold, so that the next product of two digits fits an int too.
	const fold = 8 * base * base
	product := make(digits, len(a)+len(b))
	sum := 0
	for place := range product {
		carry := 0
		for i := max(0, place-len(b)+1); i <= min(place, len(a)-1); i++ {
			sum += a[i] * b[place-i]
			if sum >= fold {
				sum -= fold
				carry += fold / base
			}
		}
		product[place] = sum % base
		sum = sum/base + carry
	}
	return product.trimmed()
}

// small returns the number of at most two digits.
func (a digits) small() int {
	switch len(a) {
	case 0:
		return 0
	case 1:
		return a[0]
	}
	return a[1]*base + a[0]
}

// ofSmall returns the digits of a number below base * base.
func ofSmall(n int) digits {
	return digits{n % base, n / base}.trimmed()
}
