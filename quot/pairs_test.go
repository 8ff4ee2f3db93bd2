package quot_test

import (
	"math/big"
	"math/rand/v2"

	"monocle/api"
)

// pairs returns pairs of fractions: edges with each other, and others of all lengths, among them equal ones and neighbours.
func pairs() [][2]sample {
	var list [][2]sample
	for _, a := range edges() {
		for _, b := range edges() {
			list = append(list, [2]sample{a, b})
		}
	}
	others := fractions(2, 700)
	for i, a := range fractions(1, 700) {
		list = append(list, [2]sample{a, others[i]})
		if i%8 == 0 {
			near := ratio(new(big.Int).Add(a.x.Num(), big.NewInt(1)), a.x.Denom())
			for _, b := range fit(a.x, near, new(big.Rat).Neg(a.x), new(big.Rat).Inv(a.x)) {
				list = append(list, [2]sample{a, b})
			}
		}
	}
	return append(list, longPairs()...)
}

// longPairs returns pairs that have products, or numerators over the common denominator, that are too long, while the sum or the difference may fit.
func longPairs() [][2]sample {
	source := rand.New(rand.NewPCG(3, 3))
	var list [][2]sample
	add := func(x, y *big.Rat) {
		for _, a := range fit(x) {
			for _, b := range fit(y) {
				list = append(list, [2]sample{a, b})
			}
		}
	}
	for range 16 {
		for _, lengths := range [][3]int{{100, 500, 490}, {200, 399, 399}, {280, 320, 310}, {299, 300, 299}, {300, 300, 299}, {1, 599, 599}, {5, 590, 300}, {1, 600, 600}} {
			add(sharing(source, lengths[0], lengths[1], lengths[2]))
		}
		for _, lengths := range [][2]int{{300, 300}, {400, 200}, {200, 200}, {500, 50}, {598, 2}, {1, 599}, {1, 300}, {599, 1}} {
			add(closeTogether(source, lengths[0], lengths[1]))
		}
		for range 5 {
			add(atLimit(source))
		}
	}
	return list
}

// sharing returns two numbers whose denominators have a common factor of shared digits, of which gone are in no denominator of their sum. Each has another factor of own digits.
func sharing(source *rand.Rand, own, shared, gone int) (x, y *big.Rat) {
	left := natural(source, max(1, shared-gone))
	both := ratio(natural(source, own), natural(source, gone))
	both.Quo(both, whole(left))
	x = ratio(natural(source, own), natural(source, own))
	y = ratio(natural(source, own), natural(source, own))
	x.Add(x, both)
	y.Sub(y, both)
	if source.IntN(2) == 0 {
		y.Add(y, ratio(natural(source, 1), left))
	}
	if source.IntN(2) == 0 {
		return x.Neg(x), y.Neg(y)
	}
	return x, y
}

// closeTogether returns two numbers with the same integer of most digits below them, or integers one apart, and denominators of below digits.
func closeTogether(source *rand.Rand, most, below int) (x, y *big.Rat) {
	integer := whole(natural(source, most))
	above := func(n int64) *big.Rat {
		d := natural(source, below)
		part := ratio(new(big.Int).Mod(natural(source, below), d), d)
		return part.Add(part, integer).Add(part, big.NewRat(n, 1))
	}
	x, y = above(0), above(source.Int64N(3)-1)
	switch source.IntN(4) {
	case 0:
		return x.Neg(x), y.Neg(y)
	case 1:
		return x, y.Neg(y)
	case 2:
		return x.Neg(x), y
	}
	return x, y
}

// atLimit returns two numbers whose sum has a numerator of 10^5400 and a little more or less, of either sign, and a short denominator.
func atLimit(source *rand.Rand) (x, y *big.Rat) {
	sum := ratio(tens(api.MaxLimbs, source.Int64N(5)-3), big.NewInt(1+source.Int64N(4)))
	if source.IntN(2) == 0 {
		sum.Neg(sum)
	}
	y = big.NewRat(source.Int64N(41)-20, 1+source.Int64N(12))
	switch source.IntN(3) {
	case 0:
		y.Mul(y, whole(natural(source, 299)))
	case 1:
		y.Mul(y, sum)
	}
	return sum.Sub(sum, y), y
}
