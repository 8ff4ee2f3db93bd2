package long_test

import (
	"math"
	"math/big"
	"math/rand/v2"
	"slices"
	"strings"
	"testing"

	"monocle/api"
	"monocle/long"
)

// ints returns integers of all lengths and of either sign, and those at which a digit or the range of int ends.
func ints() []int {
	list := []int{0, math.MaxInt, math.MinInt, math.MaxInt - 1, math.MinInt + 1}
	for _, n := range []int{1, 2, 7, base - 1, base, base + 1, base*base - 1, base * base, base*base + 1, 1 << 62} {
		list = append(list, n, -n)
	}
	source := rand.New(rand.NewPCG(3, 3))
	for range 1000 {
		list = append(list, int(source.Uint64())>>source.IntN(64))
	}
	return list
}

// P3.1: Check accepts just the valid long integers.
func TestCheck(t *testing.T) {
	valid := append(edges(), longs(1, 1000)...)
	valid = append(valid, api.Long{}, api.Long{Digits: []int{}}, largest(api.MaxLimbs), api.Long{Neg: true, Digits: largest(api.MaxLimbs).Digits})
	for _, a := range valid {
		if e := long.Check(a); e != api.OK {
			t.Errorf("Check(%v): error %d", a, e)
		}
	}
	for _, a := range invalid() {
		if e := long.Check(a); e != api.ErrDigits {
			t.Errorf("Check(%v): error %d", a, e)
		}
	}
}

// P3.1: Of makes long integers of all int, and Int finds these again.
func TestOfInt(t *testing.T) {
	for _, n := range ints() {
		a := long.Of(n)
		if !alike(a, of(n)) {
			t.Errorf("Of(%d): %v", n, a)
		}
		if m, e := long.Int(of(n)); m != n || e != api.OK {
			t.Errorf("Int of %d: %d, error %d", n, m, e)
		}
	}
	least, most := big.NewInt(math.MinInt), big.NewInt(math.MaxInt)
	for _, a := range append(edges(), longs(4, 2000)...) {
		want, wantE := 0, api.ErrBig
		if x := number(a); x.Cmp(least) >= 0 && x.Cmp(most) <= 0 {
			want, wantE = int(x.Int64()), api.OK
		}
		if n, e := long.Int(a); n != want || e != wantE {
			t.Errorf("Int(%v): %d, error %d; want %d, error %d", a, n, e, want, wantE)
		}
	}
	for _, a := range invalid() {
		if n, e := long.Int(a); n != 0 || e != api.ErrDigits {
			t.Errorf("Int(%v): %d, error %d", a, n, e)
		}
	}
}

// P3.1: Int has no number that is beyond int, not even if its low bits look like one.
func TestIntBeyond(t *testing.T) {
	for _, bits := range []uint{64, 65, 66, 70, 89, 90, 128} {
		for _, n := range []int64{-2, -1, 0, 1, 2} {
			x := new(big.Int).Lsh(big.NewInt(1), bits)
			for _, a := range []api.Long{ofNumber(x.Add(x, big.NewInt(n))), ofNumber(x.Neg(x))} {
				if n, e := long.Int(a); n != 0 || e != api.ErrBig {
					t.Errorf("Int(%v): %d, error %d", a, n, e)
				}
			}
		}
	}
}

// P3.1: Same compares the parts, of valid and of other long integers; no digits are the same as an empty list (R4).
func TestSame(t *testing.T) {
	list := append(edges(), invalid()...)
	for _, a := range list {
		for _, b := range list {
			if is := long.Same(a, b); is != alike(a, b) {
				t.Errorf("Same(%v, %v): %t", a, b, is)
			}
		}
		if twin := (api.Long{Neg: a.Neg, Digits: slices.Clone(a.Digits)}); !long.Same(a, twin) {
			t.Errorf("%v is not the same as its twin", a)
		}
	}
	for _, neg := range []bool{false, true} {
		if !long.Same(api.Long{Neg: neg}, api.Long{Neg: neg, Digits: []int{}}) {
			t.Errorf("no digits are not the same as an empty list (Neg %t)", neg)
		}
		if long.Same(api.Long{Neg: neg}, api.Long{Neg: !neg}) {
			t.Errorf("zeros of different signs are the same")
		}
	}
}

// P3.1: Cmp orders by sign, length and digits.
func TestCmp(t *testing.T) {
	for _, p := range pairs() {
		a, b := p[0], p[1]
		want := number(a).Cmp(number(b))
		if c, e := long.Cmp(a, b); c != want || e != api.OK {
			t.Errorf("Cmp(%v, %v): %d, error %d; want %d", a, b, c, e, want)
		}
	}
	for _, a := range invalid() {
		for _, b := range []api.Long{{}, {Digits: []int{3}}, largest(api.MaxLimbs), {Neg: true}} {
			if c, e := long.Cmp(a, b); c != 0 || e != api.ErrDigits {
				t.Errorf("Cmp(%v, %v): %d, error %d", a, b, c, e)
			}
			if c, e := long.Cmp(b, a); c != 0 || e != api.ErrDigits {
				t.Errorf("Cmp(%v, %v): %d, error %d", b, a, c, e)
			}
		}
	}
}

// P3.2: sums, differences, negatives and products, and ErrBig if these are too long.
func TestAddSubNegMul(t *testing.T) {
	compareTwo(t, "Add", long.Add, ofTwo(func(x, y *big.Int) *big.Int { return new(big.Int).Add(x, y) }))
	compareTwo(t, "Sub", long.Sub, ofTwo(func(x, y *big.Int) *big.Int { return new(big.Int).Sub(x, y) }))
	compareTwo(t, "Mul", long.Mul, ofTwo(func(x, y *big.Int) *big.Int { return new(big.Int).Mul(x, y) }))
	compareOne(t, "Neg", long.Neg, ofOne(func(x *big.Int) *big.Int { return new(big.Int).Neg(x) }))
}

// P3.2: sums and products are limited to 600 digits, which they may reach.
func TestLongest(t *testing.T) {
	most := largest(api.MaxLimbs)
	r, e := long.Add(most, of(1))
	same(t, "Add", []any{"most", 1}, r, e, api.Long{}, api.ErrBig)
	r, e = long.Sub(opposite(most), of(1))
	same(t, "Sub", []any{"-most", 1}, r, e, api.Long{}, api.ErrBig)
	r, e = long.Sub(most, of(1))
	w, f := limited(new(big.Int).Sub(number(most), big.NewInt(1)))
	same(t, "Sub", []any{"most", 1}, r, e, w, f)
	r, e = long.Add(most, opposite(most))
	same(t, "Add", []any{"most", "-most"}, r, e, api.Long{}, api.OK)
	for n := 1; n < api.MaxLimbs; n++ {
		r, e = long.Mul(largest(n), largest(api.MaxLimbs-n))
		w, f = limited(new(big.Int).Mul(number(largest(n)), number(largest(api.MaxLimbs-n))))
		same(t, "Mul", []any{n, api.MaxLimbs - n}, r, e, w, f)
		if e != api.OK {
			t.Errorf("a product of 600 digits: error %d", e)
		}
		a, b := ofNumber(power(n)), ofNumber(power(api.MaxLimbs-n-1))
		r, e = long.Mul(a, b)
		same(t, "Mul", []any{"powers"}, r, e, ofNumber(power(api.MaxLimbs-1)), api.OK)
		r, e = long.Mul(a, ofNumber(power(api.MaxLimbs-n)))
		same(t, "Mul", []any{"powers"}, r, e, api.Long{}, api.ErrBig)
	}
	r, e = long.Mul(most, api.Long{})
	same(t, "Mul", []any{"most", 0}, r, e, api.Long{}, api.OK)
}

// P3.3: quotients, rounded toward 0, with their rests, and ErrZero.
func TestDiv(t *testing.T) {
	compare := func(a, b api.Long) {
		t.Helper()
		keptA, intactA := guarded(a)
		keptB, intactB := guarded(b)
		q, r, e := long.Div(keptA, keptB)
		var wantQ, wantR api.Long
		wantE := api.ErrZero
		if len(b.Digits) > 0 {
			x, y := new(big.Int).QuoRem(number(a), number(b), new(big.Int))
			wantQ, wantR, wantE = ofNumber(x), ofNumber(y), api.OK
		}
		same(t, "quotient", []any{a, b}, q, e, wantQ, wantE)
		same(t, "rest", []any{a, b}, r, e, wantR, wantE)
		spoil(q)
		if len(r.Digits) > 0 && r.Digits[0] == -1 {
			t.Errorf("Div(%v, %v): the results share memory", a, b)
		}
		spoil(r)
		if !intactA() || !intactB() {
			t.Errorf("Div(%v, %v): an argument is changed, or shared with a result", a, b)
		}
	}
	for _, p := range pairs() {
		compare(p[0], p[1])
	}
	for _, p := range nearMultiples() {
		compare(p[0], p[1])
	}
	for _, a := range invalid() {
		for _, b := range []api.Long{{}, {Digits: []int{3}}, largest(api.MaxLimbs), {Neg: true}} {
			for _, p := range [][2]api.Long{{a, b}, {b, a}} {
				q, r, e := long.Div(p[0], p[1])
				same(t, "quotient", []any{p}, q, e, api.Long{}, api.ErrDigits)
				same(t, "rest", []any{p}, r, e, api.Long{}, api.ErrDigits)
			}
		}
	}
}

// nearMultiples returns pairs of which the first number is a multiple of the second one, or one off: there the digits of a quotient are estimated too great.
func nearMultiples() [][2]api.Long {
	source := rand.New(rand.NewPCG(5, 5))
	var list [][2]api.Long
	for range 5000 {
		b, q := random(source, 12), random(source, 12)
		product := new(big.Int).Mul(number(b), number(q))
		product.Add(product, big.NewInt(int64(source.IntN(3)-1)))
		list = append(list, [2]api.Long{ofNumber(product), b})
	}
	return list
}

// P3.3: greatest common divisors.
func TestGcd(t *testing.T) {
	want := ofTwo(func(x, y *big.Int) *big.Int {
		return new(big.Int).GCD(nil, nil, new(big.Int).Abs(x), new(big.Int).Abs(y))
	})
	compareTwo(t, "Gcd", long.Gcd, want)
	source := rand.New(rand.NewPCG(6, 6))
	for range 2000 { // with a common factor of any length
		most := []int{2, 5, 30, 300}[source.IntN(4)]
		a, b, c := number(random(source, most)), number(random(source, most)), number(random(source, most))
		x, y := ofNumber(a.Mul(a, c)), ofNumber(b.Mul(b, c))
		r, e := long.Gcd(x, y)
		w, f := want(x, y)
		same(t, "Gcd", []any{x, y}, r, e, w, f)
	}
}

// P3.3: greatest common divisors of numbers for which the algorithm of Euclid takes most steps, or has great quotients between small ones.
func TestGcdOfManySteps(t *testing.T) {
	source := rand.New(rand.NewPCG(7, 7))
	for _, quotients := range []func() int{
		func() int { return 1 }, // Fibonacci numbers
		func() int { return 1 + source.IntN(2) },
		func() int { return 1 + source.IntN(2)*source.IntN(3)*source.IntN(base*base) },
		func() int { return base - 1 + source.IntN(3) },
	} {
		x, y := big.NewInt(0), big.NewInt(12)
		beyond := power(api.MaxLimbs)
		for i := 0; ; i++ {
			x, y = y, x.Add(x, new(big.Int).Mul(y, big.NewInt(int64(quotients()))))
			if y.Cmp(beyond) >= 0 {
				break
			}
			if i > 200 && i%211 > 0 {
				continue
			}
			a, b := ofNumber(x), ofNumber(y)
			r, e := long.Gcd(a, b)
			same(t, "Gcd", []any{a, b}, r, e, of(12), api.OK)
			r, e = long.Gcd(opposite(b), a)
			same(t, "Gcd", []any{b, a}, r, e, of(12), api.OK)
		}
	}
}

// P3.3: roots, rounded down, and ErrArg.
func TestSqrt(t *testing.T) {
	want := func(a api.Long) (api.Long, api.Errno) {
		if a.Neg {
			return api.Long{}, api.ErrArg
		}
		return limited(new(big.Int).Sqrt(number(a)))
	}
	compareOne(t, "Sqrt", long.Sqrt, want)
	for _, a := range append(edges(), longs(8, 1500)...) { // squares, and their neighbours
		square := new(big.Int).Mul(number(a), number(a))
		for n := range int64(3) {
			x, e := limited(new(big.Int).Add(square, big.NewInt(n-1)))
			if e != api.OK {
				continue
			}
			r, e := long.Sqrt(x)
			w, f := want(x)
			same(t, "Sqrt", []any{x}, r, e, w, f)
		}
	}
	for n := range 2000 {
		r, e := long.Sqrt(of(n))
		w, f := want(of(n))
		same(t, "Sqrt", []any{n}, r, e, w, f)
	}
}

// P3.4: decimal texts, both ways.
func TestTextParse(t *testing.T) {
	for _, a := range append(edges(), longs(9, 2000)...) {
		kept, intact := guarded(a)
		want := number(a).String()
		if s, e := long.Text(kept); s != want || e != api.OK {
			t.Errorf("Text(%v): %q, error %d; want %q", a, s, e, want)
		}
		if !intact() {
			t.Errorf("Text(%v): the argument is changed", a)
		}
		r, e := long.Parse(want)
		same(t, "Parse", []any{want}, r, e, a, api.OK)
	}
	for _, a := range invalid() {
		if s, e := long.Text(a); s != "" || e != api.ErrDigits {
			t.Errorf("Text(%v): %q, error %d", a, s, e)
		}
	}
}

// P3.4: the longest texts, and those that are longer; their form counts first.
func TestParseLong(t *testing.T) {
	const most = 9 * api.MaxLimbs
	nines := strings.Repeat("9", most)
	for _, sign := range []string{"", "-"} {
		r, e := long.Parse(sign + nines)
		same(t, "Parse", []any{"nines"}, r, e, api.Long{Neg: sign == "-", Digits: largest(api.MaxLimbs).Digits}, api.OK)
		if s, f := long.Text(r); s != sign+nines || f != api.OK {
			t.Errorf("Text of the longest number: %q, error %d", s, f)
		}
		for _, s := range []string{nines + "9", "1" + strings.Repeat("0", most), strings.Repeat("7", 1<<22)} {
			r, e = long.Parse(sign + s)
			same(t, "Parse", []any{"too long"}, r, e, api.Long{}, api.ErrBig)
		}
		for _, s := range []string{"0" + nines, nines + "x", nines + nines + " ", strings.Repeat("0", most+1), nines + "-"} {
			r, e = long.Parse(sign + s)
			same(t, "Parse", []any{"wrong"}, r, e, api.Long{}, api.ErrForm)
		}
	}
}

// P3.4: Parse rejects all that is no decimal text.
func TestParseForm(t *testing.T) {
	for _, s := range []string{
		"", "-", "+", "-0", "+0", "00", "007", "-01", "+1", "--1", "-+1", "1-", "1 ", " 1", "1\n", "1.0", "1.", ".1", "1e3", "0x10", "1_000", "1,000",
		"a", "12a", "1a2", "\x00", "1\x00", "1\xff", "\u0661", "1\u0662", "\u22121", "/1", "1/", ":1", "1:", "123456789a123456789", "12345678 123456789", "0-", "0 ", "00000000000",
	} {
		r, e := long.Parse(s)
		same(t, "Parse", []any{s}, r, e, api.Long{}, api.ErrForm)
	}
	for c := range 256 { // each octet alone, in front of a digit and behind one
		for _, s := range []string{string([]byte{byte(c)}), string([]byte{byte(c), '5'}), string([]byte{'5', byte(c)})} {
			r, e := long.Parse(s)
			want, f := api.Long{}, api.ErrForm
			if n, is := new(big.Int).SetString(s, 10); is && n.String() == s {
				want, f = ofNumber(n), api.OK
			}
			same(t, "Parse", []any{s}, r, e, want, f)
		}
	}
}
