package long_test

import (
	"fmt"
	"math"
	"math/big"
	"math/rand/v2"
	"slices"
	"strconv"
	"strings"
	"testing"

	"monocle/api"
)

// base is what the digits of long integers count powers of.
const base = 1000000000

// Each kind of function, with the number of its long integers.
type (
	one = func(a api.Long) (api.Long, api.Errno)
	two = func(a, b api.Long) (api.Long, api.Errno)
)

// number returns the number that a stands for. It goes by the decimal text, which package big reads fast.
func number(a api.Long) *big.Int {
	var text strings.Builder
	if a.Neg {
		text.WriteByte('-')
	}
	text.WriteByte('0')
	for _, d := range slices.Backward(a.Digits) {
		fmt.Fprintf(&text, "%09d", d)
	}
	n, _ := new(big.Int).SetString(text.String(), 10)
	return n
}

// ofNumber returns the long integer n, which may be too long to be valid.
func ofNumber(n *big.Int) api.Long {
	a := api.Long{Neg: n.Sign() < 0}
	if n.Sign() == 0 {
		return a
	}
	text := new(big.Int).Abs(n).String()
	for end := len(text); end > 0; end -= 9 {
		d, _ := strconv.Atoi(text[max(0, end-9):end])
		a.Digits = append(a.Digits, d)
	}
	return a
}

// limited returns the long integer n, or ErrBig if it is too long.
func limited(n *big.Int) (api.Long, api.Errno) {
	a := ofNumber(n)
	if len(a.Digits) > api.MaxLimbs {
		return api.Long{}, api.ErrBig
	}
	return a, api.OK
}

// ofOne returns the function of long integers that belongs to a function of numbers.
func ofOne(f func(x *big.Int) *big.Int) one {
	return func(a api.Long) (api.Long, api.Errno) { return limited(f(number(a))) }
}

// ofTwo does the same for a function of two numbers.
func ofTwo(f func(x, y *big.Int) *big.Int) two {
	return func(a, b api.Long) (api.Long, api.Errno) { return limited(f(number(a), number(b))) }
}

// of returns the long integer n.
func of(n int) api.Long {
	return ofNumber(big.NewInt(int64(n)))
}

// opposite returns the negative of a valid long integer.
func opposite(a api.Long) api.Long {
	return api.Long{Neg: !a.Neg && len(a.Digits) > 0, Digits: a.Digits}
}

// power returns base^n.
func power(n int) *big.Int {
	return new(big.Int).Exp(big.NewInt(base), big.NewInt(int64(n)), nil)
}

// largest returns the greatest long integer of n digits.
func largest(n int) api.Long {
	return api.Long{Digits: slices.Repeat([]int{base - 1}, n)}
}

// edges returns long integers of both signs at which lengths, and what fits an int, change.
func edges() []api.Long {
	var sizes []*big.Int
	around := func(n *big.Int) {
		sizes = append(sizes, new(big.Int).Sub(n, big.NewInt(1)), n, new(big.Int).Add(n, big.NewInt(1)))
	}
	for _, n := range []int{1, 10, base / 2} {
		around(big.NewInt(int64(n)))
	}
	for _, n := range []uint{32, 63, 64, 127} {
		around(new(big.Int).Lsh(big.NewInt(1), n))
	}
	for _, n := range []int{1, 2, 3, 4, 5, 18, 300, 599} {
		around(power(n))
	}
	sizes = append(sizes, number(largest(api.MaxLimbs)))
	var list []api.Long
	for _, n := range sizes {
		list = append(list, ofNumber(n), opposite(ofNumber(n)))
	}
	return list
}

// randomDigits returns digits of which the last one is not 0. One digit of three is random, the others are at the ends of their range or in its middle, where estimates and carries go wrong.
func randomDigits(source *rand.Rand, count int) []int {
	special := []int{0, 0, 1, base/2 - 1, base / 2, base - 2, base - 1, base - 1}
	var d []int
	for len(d) < count {
		if source.IntN(3) == 0 {
			d = append(d, source.IntN(base))
		} else {
			d = append(d, special[source.IntN(len(special))])
		}
	}
	if count > 0 && d[count-1] == 0 {
		d[count-1] = 1 + source.IntN(base-1)
	}
	return d
}

// random returns a long integer of either sign with at most most digits.
func random(source *rand.Rand, most int) api.Long {
	d := randomDigits(source, source.IntN(most+1))
	return api.Long{Neg: len(d) > 0 && source.IntN(2) == 0, Digits: d}
}

// longs returns long integers of all lengths and of either sign: for a seed always the same ones. Half of them are short.
func longs(seed uint64, count int) []api.Long {
	source := rand.New(rand.NewPCG(seed, seed))
	var list []api.Long
	for range count {
		list = append(list, random(source, []int{3, 6, 40, api.MaxLimbs}[source.IntN(4)]))
	}
	return list
}

// invalid returns long integers that are not valid, each for one cause.
func invalid() []api.Long {
	list := []api.Long{
		{Neg: true},
		{Neg: true, Digits: []int{}},
		largest(api.MaxLimbs + 1),
		{Neg: true, Digits: largest(api.MaxLimbs + 1).Digits},
		{Digits: make([]int, api.MaxLimbs+1)},
	}
	for _, d := range [][]int{{0}, {0, 0}, {5, 0}, {-1}, {base}, {math.MinInt}, {math.MaxInt}, {base, 1}, {-1, 1}, {1, base}, {1, -1}, {1, -1, 1}, {1, base, 1}, {1, 2, 3, 0}} {
		list = append(list, api.Long{Digits: d}, api.Long{Neg: true, Digits: d})
	}
	return list
}

// alike tells whether a and b have the same parts.
func alike(a, b api.Long) bool {
	return a.Neg == b.Neg && slices.Equal(a.Digits, b.Digits)
}

// same reports a result that is not the wanted one.
func same(t *testing.T, name string, args []any, a api.Long, e api.Errno, want api.Long, wantE api.Errno) {
	t.Helper()
	if !alike(a, want) || e != wantE {
		t.Errorf("%s%v: %v, error %d; want %v, error %d", name, args, a, e, want, wantE)
	}
}

// guarded returns a copy of a with unused capacity, and a function that tells whether both are as they were.
func guarded(a api.Long) (api.Long, func() bool) {
	const mark = 123456789
	n := len(a.Digits)
	memory := slices.Concat(a.Digits, []int{mark, mark, mark})
	return api.Long{Neg: a.Neg, Digits: memory[:n]}, func() bool {
		return slices.Equal(memory[:n], a.Digits) && slices.Equal(memory[n:], []int{mark, mark, mark})
	}
}

// spoil writes to all memory of a result, as its owner may.
func spoil(a api.Long) {
	d := a.Digits[:cap(a.Digits)]
	for i := range d {
		d[i] = -1
	}
}

// compareOne tests a function of one long integer for small and large numbers of both signs.
func compareOne(t *testing.T, name string, of, want one) {
	t.Helper()
	for _, a := range append(edges(), longs(1, 1500)...) {
		kept, intact := guarded(a)
		r, e := of(kept)
		w, f := want(a)
		same(t, name, []any{a}, r, e, w, f)
		spoil(r)
		if !intact() {
			t.Errorf("%s(%v): the argument is changed, or shared with the result", name, a)
		}
	}
	for _, a := range invalid() {
		r, e := of(a)
		same(t, name, []any{a}, r, e, api.Long{}, api.ErrDigits)
	}
}

// compareTwo does the same for a function of two long integers.
func compareTwo(t *testing.T, name string, of, want two) {
	t.Helper()
	compare := func(a, b api.Long) {
		t.Helper()
		keptA, intactA := guarded(a)
		keptB, intactB := guarded(b)
		r, e := of(keptA, keptB)
		w, f := want(a, b)
		same(t, name, []any{a, b}, r, e, w, f)
		spoil(r)
		if !intactA() || !intactB() {
			t.Errorf("%s(%v, %v): an argument is changed, or shared with the result", name, a, b)
		}
	}
	for _, p := range pairs() {
		compare(p[0], p[1])
	}
	for _, a := range invalid() {
		for _, b := range []api.Long{{}, {Digits: []int{3}}, largest(api.MaxLimbs), {Neg: true}} {
			r, e := of(a, b)
			same(t, name, []any{a, b}, r, e, api.Long{}, api.ErrDigits)
			r, e = of(b, a)
			same(t, name, []any{b, a}, r, e, api.Long{}, api.ErrDigits)
		}
	}
}

// filled returns pairs of long integers whose first three digits are a number that, with the third one, passes a multiple of 2^64: sums of 128 bits have a carry there.
func filled() [][2]api.Long {
	source := rand.New(rand.NewPCG(10, 10))
	word, ten := new(big.Int).Lsh(big.NewInt(1), 55), big.NewInt(1953125) // base is 1953125 * 2^9
	first := new(big.Int).ModInverse(ten, word)
	first.Sub(word, first)
	long := func(factor int64) api.Long {
		n := new(big.Int).Mul(word, big.NewInt(factor))
		d := slices.Concat(randomDigits(source, 2), []int{base - 1}, ofNumber(n.Add(n, first)).Digits)
		return api.Long{Digits: d}
	}
	var list [][2]api.Long
	for i := range int64(20) {
		for j := range int64(20) {
			list = append(list, [2]api.Long{long(i), long(j)})
		}
	}
	return list
}

// pairs returns pairs of long integers: all edges with each other, and others of all lengths, among them equal ones and neighbours.
func pairs() [][2]api.Long {
	var list [][2]api.Long
	for _, a := range edges() {
		for _, b := range edges() {
			list = append(list, [2]api.Long{a, b})
		}
	}
	list = append(list, filled()...)
	bs := longs(2, 2000)
	for i, a := range longs(1, 2000) {
		list = append(list, [2]api.Long{a, bs[i]})
		if i%10 == 0 {
			near, e := limited(new(big.Int).Add(number(a), big.NewInt(int64(i/10%3-1))))
			if e == api.OK {
				list = append(list, [2]api.Long{a, near}, [2]api.Long{a, opposite(near)})
			}
		}
	}
	return list
}
