package dec_test

import (
	"math"
	"math/big"
	"math/rand/v2"
	"regexp"
	"strings"
	"testing"

	"monocle/api"
)

// maxPlaces is the greatest number of places of Fixed and Both.
const maxPlaces = 12

// maxText is the greatest number of characters of a text.
const maxText = 48

// form is that of the texts of numbers, without a limit of their places.
var form = regexp.MustCompile(`^(0|-?[1-9][0-9]*|-?(0|[1-9][0-9]*)\.[0-9]*[1-9])$`)

// tens returns 10^n.
func tens(n int) *big.Int {
	return new(big.Int).Exp(big.NewInt(10), big.NewInt(int64(n)), nil)
}

// decimal returns the number n / 10^digits.
func decimal(n *big.Int, digits int) *big.Rat {
	return new(big.Rat).SetFrac(n, tens(digits))
}

// fixed returns the number v / One.
func fixed(v int) *big.Rat {
	return big.NewRat(int64(v), api.One)
}

// textOf returns the text of x, which has at most digits places.
func textOf(x *big.Rat, digits int) string {
	s := x.FloatString(digits)
	if strings.Contains(s, ".") {
		return strings.TrimRight(strings.TrimRight(s, "0"), ".")
	}
	return s
}

// parsed returns what Parse should, for digits in their range.
func parsed(s string, digits int) (int, api.Errno) {
	_, places, _ := strings.Cut(s, ".")
	if !form.MatchString(s) || len(places) > digits {
		return 0, api.ErrForm
	}
	n, _ := new(big.Int).SetString(strings.Replace(s, ".", "", 1)+strings.Repeat("0", digits-len(places)), 10)
	if !n.IsInt64() {
		return 0, api.ErrBig
	}
	return int(n.Int64()), api.OK
}

// rounded returns x rounded to digits places.
func rounded(x *big.Rat, digits int, up bool) *big.Rat {
	n := new(big.Int).Mul(x.Num(), tens(digits))
	if up {
		n.Neg(n)
	}
	n.Div(n, x.Denom()) // the floor, since a denominator is positive
	if up {
		n.Neg(n)
	}
	return decimal(n, digits)
}

// number returns the number with a text.
func number(t *testing.T, s string) *big.Rat {
	t.Helper()
	x, ok := new(big.Rat).SetString(s)
	if !ok || !form.MatchString(s) {
		t.Fatalf("%q is no text of a number", s)
	}
	return x
}

// ends returns the texts of the ends in the text of an interval.
func ends(t *testing.T, s string) (lo, hi string) {
	t.Helper()
	inner, opened := strings.CutPrefix(s, "[")
	inner, closed := strings.CutSuffix(inner, "]")
	lo, hi, comma := strings.Cut(inner, ", ")
	if !opened || !closed || !comma {
		t.Fatalf("%q is no text of an interval", s)
	}
	return lo, hi
}

// edges returns integers at which lengths and limits change, of both signs.
func edges() []int {
	list := []int{0, math.MinInt, math.MinInt + 1, math.MaxInt, math.MaxInt - 1}
	p := 1
	for range api.MaxDecimals + 1 {
		for _, n := range []int{p - 1, p, p + 1, 5 * p, p + p/10, p / 7} {
			list = append(list, n, -n)
		}
		p *= 10 // the last product does not fit, and is not used
	}
	return list
}

// ints returns integers of all lengths and of either sign: for a seed always the same ones. Some of them end with zeros.
func ints(seed uint64, count int) []int {
	source := rand.New(rand.NewPCG(seed, seed))
	var list []int
	for range count {
		n := int(source.Uint64()) >> source.IntN(64)
		for range source.IntN(8) {
			if n < math.MaxInt/10 && n > math.MinInt/10 {
				n *= 10
			}
		}
		list = append(list, n)
	}
	return list
}

// fixes returns fixed-point numbers of all sizes and of either sign, among them those at which signs and places change.
func fixes(seed uint64, count int) []int {
	list := []int{0, api.MaxFix, api.MaxFix - 1}
	for i := range 52 {
		list = append(list, 1<<i-1, 1<<i, 1<<i+1)
	}
	for p := 1; p <= 1000000; p *= 10 {
		list = append(list, p*api.One, p*api.One-1, p*api.One+1, api.One/p, api.One/p+1)
	}
	for _, n := range ints(seed, count) {
		list = append(list, n%(api.MaxFix+1))
	}
	for i, v := range list {
		v = min(v, api.MaxFix)
		list[i] = v
		list = append(list, -v)
	}
	return list
}

// beyond returns integers that are no fixed-point numbers.
func beyond() []int {
	return []int{api.MaxFix + 1, -api.MaxFix - 1, 1 << 53, -1 << 53, math.MaxInt, math.MinInt}
}

// expect reports a result that is not the wanted one, and a text that is too long.
func expect[T comparable](t *testing.T, name string, args []any, r T, e api.Errno, want T, wantE api.Errno) {
	t.Helper()
	if r != want || e != wantE {
		t.Errorf("%s%v: %v, error %d; want %v, error %d", name, args, r, e, want, wantE)
	}
	if s, ok := any(r).(string); ok && len(s) > maxText {
		t.Errorf("%s%v: %q has %d characters", name, args, s, len(s))
	}
}
