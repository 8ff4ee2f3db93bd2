package dec_test

import (
	"math"
	"math/big"
	"testing"

	"monocle/api"
	"monocle/dec"
)

// P5.4: Parse inverts Text.
func TestParseInvertsText(t *testing.T) {
	for _, n := range append(edges(), ints(4, 5000)...) {
		for digits := range api.MaxDecimals + 1 {
			s, e := dec.Text(n, digits)
			m, f := dec.Parse(s, digits)
			if m != n || e != api.OK || f != api.OK {
				t.Errorf("Parse of Text(%d, %d), %q: %d, errors %d, %d", n, digits, s, m, e, f)
			}
		}
	}
}

// P5.4: a text that Parse accepts is the text of the number that it returns.
func TestTextInvertsParse(t *testing.T) {
	var texts []string
	for _, n := range ints(5, 2000) {
		s := textOf(decimal(big.NewInt(int64(n)), 6), 6)
		for i := range len(s) {
			texts = append(texts, s[:i], s[i:], s[:i]+"0"+s[i:], s[:i]+"."+s[i:], s[:i]+"-"+s[i:], s[:i]+s[i+1:])
		}
	}
	accepted := 0
	for _, s := range texts {
		for _, digits := range []int{0, 2, 6, 18} {
			n, e := dec.Parse(s, digits)
			if e != api.OK {
				continue
			}
			accepted++
			r, e := dec.Text(n, digits)
			expect(t, "Text of Parse", []any{s, digits}, r, e, s, api.OK)
		}
	}
	if accepted < 10000 {
		t.Errorf("only %d texts were accepted", accepted)
	}
}

// P5.4: with more digits the text of the same decimal number is the same.
func TestTextWithMoreDigits(t *testing.T) {
	for _, n := range append(edges(), ints(6, 5000)...) {
		for digits := range api.MaxDecimals {
			want, e := dec.Text(n, digits)
			for m, more := n, digits; more < api.MaxDecimals && m <= math.MaxInt/10 && m >= math.MinInt/10; {
				m *= 10
				more++
				s, f := dec.Text(m, more)
				expect(t, "Text", []any{m, more}, s, f, want, e)
			}
		}
	}
}

// P5.4: a fixed-point number lies between its roundings, which are alike, or 10^-digits apart.
func TestRoundings(t *testing.T) {
	for _, v := range fixes(7, 3000) {
		for digits := range maxPlaces + 1 {
			low, e := dec.Fixed(v, digits, false)
			high, f := dec.Fixed(v, digits, true)
			if e != api.OK || f != api.OK {
				t.Fatalf("Fixed(%d, %d): errors %d, %d", v, digits, e, f)
			}
			down, up := number(t, low), number(t, high)
			if down.Cmp(fixed(v)) > 0 || up.Cmp(fixed(v)) < 0 {
				t.Errorf("Fixed(%d, %d): %s, %s", v, digits, low, high)
			}
			apart := new(big.Rat).Sub(up, down)
			if apart.Sign() != 0 && apart.Cmp(decimal(big.NewInt(1), digits)) != 0 {
				t.Errorf("Fixed(%d, %d): %s and %s are %s apart", v, digits, low, high, apart)
			}
		}
	}
}

// P5.4: rounding down the negative of a number gives the negative of that number rounded up, as the terms have it.
func TestRoundingsOfNegatives(t *testing.T) {
	for _, v := range fixes(8, 1000) {
		for digits := range maxPlaces + 1 {
			up, e := dec.Fixed(v, digits, true)
			want := textOf(new(big.Rat).Neg(number(t, up)), digits)
			s, f := dec.Fixed(-v, digits, false)
			expect(t, "Fixed", []any{-v, digits, false}, s, f, want, e)
		}
	}
}

// P5.4: the decimal numbers in the text of an interval enclose it.
func TestBothEncloses(t *testing.T) {
	list := fixes(9, 1000)
	for i, v := range list {
		w := list[len(list)-1-i]
		for _, a := range []api.Span{{Lo: v, Hi: v}, {Lo: min(v, w), Hi: max(v, w)}} {
			for digits := range maxPlaces + 1 {
				s, e := dec.Both(a, digits)
				if e != api.OK {
					t.Fatalf("Both(%v, %d): error %d", a, digits, e)
				}
				lo, hi := ends(t, s)
				if number(t, lo).Cmp(fixed(a.Lo)) > 0 || number(t, hi).Cmp(fixed(a.Hi)) < 0 {
					t.Errorf("Both(%v, %d): %s", a, digits, s)
				}
			}
		}
	}
}
