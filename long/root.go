package long

import "math/bits"

// root returns the root of a, rounded down. The root of the first half of the digits leads to a first one that is too great by little, so that few improvements are needed.
func (a digits) root() digits {
	if len(a) <= 2 {
		return ofSmall(smallRoot(a.small()))
	}
	places := (len(a) + 1) / 4
	first := a[2*places:].root().plus(digits{1})
	root := append(make(digits, places), first...)
	improve := func(x digits) digits {
		quotient, _ := a.divided(x)
		half, _ := x.plus(quotient).dividedByDigit(2)
		return half
	}
	for {
		next := improve(root)
		if next.compare(root) >= 0 {
			return root
		}
		root = next
	}
}

// smallRoot returns the root of n, rounded down.
func smallRoot(n int) int {
	if n == 0 {
		return 0
	}
	root := 1 << ((bits.Len(uint(n)) + 1) / 2) // at least the root
	for {
		next := (root + n/root) / 2
		if next >= root {
			return root
		}
		root = next
	}
}
