package fix_test

import (
	"math"
	"math/big"
	"math/rand/v2"
	"testing"

	"monocle/api"
)

// side says which neighbour of a number a function returns.
type side bool

const (
	below side = false
	above side = true
)

// maxFactor is the limit of n and d for the functions that scale.
const maxFactor = 1 << 62

// Each kind of function, with the number of its arguments.
type (
	one   = func(a int) (int, api.Errno)
	two   = func(a, b int) (int, api.Errno)
	three = func(a, n, d int) (int, api.Errno)
)

func valid(a int) bool {
	return -api.MaxFix <= a && a <= api.MaxFix
}

func whole(n int) *big.Int {
	return big.NewInt(int64(n))
}

func times(a, b int) *big.Int {
	return new(big.Int).Mul(whole(a), whole(b))
}

// rounded returns the neighbour of num / den on a side, or ErrBig if that is no fixed-point number.
func rounded(num, den *big.Int, to side) (int, api.Errno) {
	n, d := new(big.Int).Set(num), new(big.Int).Set(den)
	if d.Sign() < 0 {
		n.Neg(n)
		d.Neg(d)
	}
	if to == below {
		return fixed(n.Div(n, d)) // the floor, since d is positive
	}
	n.Div(n.Neg(n), d)
	return fixed(n.Neg(n))
}

// fixed returns n, or ErrBig if n is no fixed-point number.
func fixed(n *big.Int) (int, api.Errno) {
	if !n.IsInt64() || !valid(int(n.Int64())) {
		return 0, api.ErrBig
	}
	return int(n.Int64()), api.OK
}

// edges are the integers at which results or errors change, with their neighbours, of either sign.
func edges() []int {
	list := []int{0, math.MinInt, math.MinInt + 1, math.MaxInt - 1, math.MaxInt}
	for _, n := range []int{2, 5, 10, 1 << 20, 1 << 31, api.One, 3 * api.One, 1 << 42, 1<<42 + 1<<21, api.MaxFix - 1, api.MaxFix, 1 << 53, maxFactor} {
		list = append(list, n-1, n, n+1, 1-n, -n, -1-n)
	}
	return list
}

// ints returns integers of all lengths and of either sign: for a seed always the same ones.
func ints(seed uint64, count int) []int {
	source := rand.New(rand.NewPCG(seed, seed))
	var list []int
	for range count {
		list = append(list, int(source.Uint64())>>source.IntN(64))
	}
	return list
}

// fixes returns fixed-point numbers of all lengths and of either sign: for a seed always the same ones.
func fixes(seed uint64, count int) []int {
	list := ints(seed, count)
	for i, n := range list {
		list[i] = n % (api.MaxFix + 1)
	}
	return list
}

// ascending returns fixed-point numbers from 0 on, sorted.
func ascending() []int {
	return []int{0, 1, 2, 3, 1 << 20, 1<<31 - 1, 1 << 31, api.One - 1, api.One, api.One + 1, 10 * api.One, 1 << 42, 1<<42 + 1<<21, 1 << 47, api.MaxFix - 1, api.MaxFix}
}

// same reports a result that is not the wanted one.
func same(t *testing.T, name string, args []int, n int, e api.Errno, want int, wantE api.Errno) {
	t.Helper()
	if n != want || e != wantE {
		t.Errorf("%s%v: %d, error %d; want %d, error %d", name, args, n, e, want, wantE)
	}
}

// compareOne tests a function for all edges and others. want is asked for fixed-point numbers only: the others are ErrArg.
func compareOne(t *testing.T, name string, of, want one) {
	t.Helper()
	for _, a := range append(edges(), fixes(1, 5000)...) {
		n, e := of(a)
		m, f := 0, api.ErrArg
		if valid(a) {
			m, f = want(a)
		}
		same(t, name, []int{a}, n, e, m, f)
	}
}

// compareTwo does the same for a function of two numbers, for all pairs of edges and others.
func compareTwo(t *testing.T, name string, of, want two) {
	t.Helper()
	compare := func(a, b int) {
		t.Helper()
		n, e := of(a, b)
		m, f := 0, api.ErrArg
		if valid(a) && valid(b) {
			m, f = want(a, b)
		}
		same(t, name, []int{a, b}, n, e, m, f)
	}
	for _, a := range edges() {
		for _, b := range edges() {
			compare(a, b)
		}
	}
	bs := fixes(2, 5000)
	for i, a := range fixes(1, 5000) {
		compare(a, bs[i])
	}
}
