package dec_test

import (
	"math"
	"math/big"
	"strings"
	"testing"

	"monocle/api"
	"monocle/dec"
)

// P5.1: the text of every integer, with every number of digits.
func TestText(t *testing.T) {
	for _, n := range append(edges(), ints(1, 3000)...) {
		for digits := range api.MaxDecimals + 1 {
			s, e := dec.Text(n, digits)
			want := textOf(decimal(big.NewInt(int64(n)), digits), digits)
			expect(t, "Text", []any{n, digits}, s, e, want, api.OK)
		}
	}
}

// P5.1: texts at the limits, written out.
func TestTextLimits(t *testing.T) {
	for _, x := range []struct {
		n, digits int
		want      string
	}{
		{math.MinInt, 0, "-9223372036854775808"},
		{math.MaxInt, 0, "9223372036854775807"},
		{math.MinInt, 1, "-922337203685477580.8"},
		{math.MinInt, 18, "-9.223372036854775808"},
		{math.MaxInt, 18, "9.223372036854775807"},
		{1, 18, "0.000000000000000001"},
		{-1, 18, "-0.000000000000000001"},
		{1000000000000000000, 18, "1"},
		{-1000000000000000000, 17, "-10"},
		{999999999999999999, 18, "0.999999999999999999"},
		{0, 0, "0"},
		{0, 18, "0"},
		{-10, 1, "-1"},
		{1050, 2, "10.5"},
		{1005, 2, "10.05"},
		{-100, 0, "-100"},
	} {
		s, e := dec.Text(x.n, x.digits)
		expect(t, "Text", []any{x.n, x.digits}, s, e, x.want, api.OK)
	}
}

// P5.1, P5.2: digits that are not from 0 to MaxDecimals have ErrArg, whatever the number or the text is.
func TestDigitsOutOfRange(t *testing.T) {
	for _, digits := range []int{-1, api.MaxDecimals + 1, 64, -64, math.MaxInt, math.MinInt} {
		for _, n := range []int{0, 1, -1, math.MinInt, math.MaxInt} {
			s, e := dec.Text(n, digits)
			expect(t, "Text", []any{n, digits}, s, e, "", api.ErrArg)
		}
		for _, s := range []string{"0", "1", "0.5", "", "x", "1.0", "9223372036854775808", "0.1234567890123456789"} {
			n, e := dec.Parse(s, digits)
			expect(t, "Parse", []any{s, digits}, n, e, 0, api.ErrArg)
		}
	}
}

// P5.2: all texts of up to seven of the characters that matter are told apart.
func TestParseShortTexts(t *testing.T) {
	characters := []string{"-", ".", "0", "1", "9", "+"}
	texts := []string{""}
	for first := 0; len(texts[len(texts)-1]) < 7; {
		last := len(texts)
		for _, s := range texts[first:last] {
			for _, c := range characters {
				texts = append(texts, s+c)
			}
		}
		first = last
	}
	for _, s := range texts {
		for _, digits := range []int{0, 1, 3, 18} {
			n, e := dec.Parse(s, digits)
			want, wantE := parsed(s, digits)
			expect(t, "Parse", []any{s, digits}, n, e, want, wantE)
		}
	}
}

// P5.2: other characters than digits, a period and a sign have no place in a text.
func TestParseOtherCharacters(t *testing.T) {
	for _, s := range []string{
		" ", " 1", "1 ", "1 .5", "1. 5", "- 1", "1\n", "1.5\n", "\t1", "1,5", "1e3", "1E3", "1.5e1", "0x10", "0b1", "0o7", "1_000", "1.000_1", "1/2", "1:5", "1;",
		"inf", "-Inf", "NaN", "x", "1x", "x1", "1.x", "1.x5", "1.5x", "0.5.5", "1..5", "1.5.", "--1", "-+1", "+-1", "1-", "1.-5", "-.5", "-", ".", "-.", "1\x00", "\x001",
		"\u0661", "1\u0661", "1.\u0665", "\uff11", "1\uff0e5", "\u22121", "1\u00b75", "\xff", "1\xff", "1.5\xff", "1.\xff5", "\xc0\xb1", "1.\x805",
	} {
		for digits := range api.MaxDecimals + 1 {
			n, e := dec.Parse(s, digits)
			expect(t, "Parse", []any{s, digits}, n, e, 0, api.ErrForm)
		}
	}
	for c := range 256 {
		for _, s := range []string{string([]byte{byte(c)}), string([]byte{'1', byte(c)}), string([]byte{byte(c), '1'}), string([]byte{'0', '.', byte(c), '1'})} {
			n, e := dec.Parse(s, 2)
			want, wantE := parsed(s, 2)
			expect(t, "Parse", []any{s, 2}, n, e, want, wantE)
		}
	}
}

// P5.2: places up to digits are read, and more of them have ErrForm, for each number of digits.
func TestParsePlaces(t *testing.T) {
	for digits := range api.MaxDecimals + 1 {
		for places := range 24 {
			for _, whole := range []string{"0", "-0", "3", "-3", "10"} {
				for _, ahead := range []string{"0", "9"} {
					s := whole
					if places > 0 {
						s += "." + strings.Repeat(ahead, places-1) + "7"
					}
					n, e := dec.Parse(s, digits)
					want, wantE := parsed(s, digits)
					expect(t, "Parse", []any{s, digits}, n, e, want, wantE)
				}
			}
		}
	}
}

// P5.2: the greatest and the least integer with each number of digits, and those next to them.
func TestParseLimits(t *testing.T) {
	for digits := range api.MaxDecimals + 1 {
		for _, limit := range []int64{math.MaxInt, math.MinInt} {
			for offset := int64(-20); offset <= 20; offset++ {
				n := new(big.Int).Add(big.NewInt(limit), big.NewInt(offset))
				s := textOf(decimal(n, digits), digits)
				want, wantE := 0, api.ErrBig
				if n.IsInt64() {
					want, wantE = int(n.Int64()), api.OK
				}
				r, e := dec.Parse(s, digits)
				expect(t, "Parse", []any{s, digits}, r, e, want, wantE)
			}
		}
	}
	for _, s := range []string{"18446744073709551616", "-18446744073709551616", "18446744073709551617", "10000000000000000000", "-99999999999999999999", "340282366920938463463374607431768211456"} {
		n, e := dec.Parse(s, 0)
		expect(t, "Parse", []any{s, 0}, n, e, 0, api.ErrBig)
	}
	for _, s := range []string{"10", "-10", "9.3", "-9.3", "9.223372036854775808", "-9.223372036854775809", "1000000000000000000"} {
		n, e := dec.Parse(s, 18)
		expect(t, "Parse", []any{s, 18}, n, e, 0, api.ErrBig)
	}
}

// P5.2: numbers of any size have a text; what is no text, or needs too many places, is found before its number is too great.
func TestParseLongTexts(t *testing.T) {
	for _, count := range []int{19, 20, 100, 5400, 5401, 100000} {
		nines := strings.Repeat("9", count)
		for s, want := range map[string]api.Errno{
			nines:               api.ErrBig,
			"-" + nines:         api.ErrBig,
			nines + ".25":       api.ErrBig,
			"-" + nines + ".5":  api.ErrBig,
			nines + ".125":      api.ErrForm,
			nines + ".":         api.ErrForm,
			nines + ".50":       api.ErrForm,
			nines + "x":         api.ErrForm,
			"0" + nines:         api.ErrForm,
			"-0" + nines:        api.ErrForm,
			"+" + nines:         api.ErrForm,
			"0." + nines:        api.ErrForm,
			nines + "." + nines: api.ErrForm,
		} {
			n, e := dec.Parse(s, 2)
			if n != 0 || e != want {
				t.Errorf("Parse of %d nines, from %q to %q: %d, error %d; want error %d", count, s[:3], s[len(s)-3:], n, e, want)
			}
		}
	}
}

// P5.3: fixed-point numbers rounded down and up, with each number of digits.
func TestFixed(t *testing.T) {
	for _, v := range fixes(2, 3000) {
		for digits := range maxPlaces + 1 {
			for _, up := range []bool{false, true} {
				s, e := dec.Fixed(v, digits, up)
				want := textOf(rounded(fixed(v), digits, up), digits)
				expect(t, "Fixed", []any{v, digits, up}, s, e, want, api.OK)
			}
		}
	}
}

// P5.3: fixed-point numbers at their bounds and next to integers, written out.
func TestFixedLimits(t *testing.T) {
	for _, x := range []struct {
		v, digits int
		up        bool
		want      string
	}{
		{api.MaxFix, 12, false, "1048576"},
		{-api.MaxFix, 12, true, "-1048576"},
		{api.MaxFix - 1, 12, false, "1048575.999999999767"},
		{api.MaxFix - 1, 12, true, "1048575.999999999768"},
		{1 - api.MaxFix, 12, false, "-1048575.999999999768"},
		{1 - api.MaxFix, 12, true, "-1048575.999999999767"},
		{api.MaxFix - 1, 9, true, "1048576"},
		{1 - api.MaxFix, 9, false, "-1048576"},
		{-1, 0, false, "-1"},
		{-1, 0, true, "0"},
		{1, 0, false, "0"},
		{1, 12, true, "0.000000000233"},
		{-1, 12, true, "-0.000000000232"},
		{0, 0, true, "0"},
		{0, 12, false, "0"},
		{-3 << 31, 0, false, "-2"},
		{-3 << 31, 0, true, "-1"},
		{-3 << 31, 1, false, "-1.5"},
		{api.One, 0, true, "1"},
		{10 * api.One, 0, false, "10"},
	} {
		s, e := dec.Fixed(x.v, x.digits, x.up)
		expect(t, "Fixed", []any{x.v, x.digits, x.up}, s, e, x.want, api.OK)
	}
}

// P5.3: numbers beyond the limit, and digits that are not from 0 to 12, have ErrArg.
func TestFixedOutOfRange(t *testing.T) {
	for _, up := range []bool{false, true} {
		for _, v := range beyond() {
			for _, digits := range []int{0, 6, maxPlaces, -1, maxPlaces + 1} {
				s, e := dec.Fixed(v, digits, up)
				expect(t, "Fixed", []any{v, digits, up}, s, e, "", api.ErrArg)
			}
		}
		for _, digits := range []int{-1, maxPlaces + 1, api.MaxDecimals, math.MaxInt, math.MinInt} {
			for _, v := range []int{0, 1, -1, api.MaxFix, -api.MaxFix} {
				s, e := dec.Fixed(v, digits, up)
				expect(t, "Fixed", []any{v, digits, up}, s, e, "", api.ErrArg)
			}
		}
	}
}

// P5.3: the ends of an interval are rounded outward.
func TestBoth(t *testing.T) {
	list := fixes(3, 2000)
	for i, v := range list {
		for _, w := range []int{v, list[(i+1)%len(list)], api.MaxFix, -api.MaxFix} {
			a := api.Span{Lo: min(v, w), Hi: max(v, w)}
			for _, digits := range []int{0, 1, 6, 9, maxPlaces} {
				s, e := dec.Both(a, digits)
				lo := textOf(rounded(fixed(a.Lo), digits, false), digits)
				hi := textOf(rounded(fixed(a.Hi), digits, true), digits)
				expect(t, "Both", []any{a, digits}, s, e, "["+lo+", "+hi+"]", api.OK)
			}
		}
	}
}

// P5.3: the longest text of an interval.
func TestBothLimits(t *testing.T) {
	a := api.Span{Lo: 1 - api.MaxFix, Hi: 2 - api.MaxFix}
	s, e := dec.Both(a, maxPlaces)
	expect(t, "Both", []any{a, maxPlaces}, s, e, "[-1048575.999999999768, -1048575.999999999534]", api.OK)
	a = api.Span{Lo: -api.MaxFix, Hi: api.MaxFix}
	s, e = dec.Both(a, maxPlaces)
	expect(t, "Both", []any{a, maxPlaces}, s, e, "[-1048576, 1048576]", api.OK)
}

// P5.3: an invalid interval has ErrSpan, whatever the digits are, and digits that are not from 0 to 12 have ErrArg.
func TestBothErrors(t *testing.T) {
	invalid := []api.Span{{Lo: 1, Hi: 0}, {Lo: api.MaxFix, Hi: -api.MaxFix}, {Lo: math.MaxInt, Hi: math.MinInt}}
	for _, v := range beyond() {
		invalid = append(invalid, api.Span{Lo: v, Hi: v}, api.Span{Lo: min(v, 0), Hi: max(v, 0)})
	}
	for _, digits := range []int{-1, maxPlaces + 1, math.MaxInt, math.MinInt} {
		for _, a := range invalid {
			s, e := dec.Both(a, digits)
			expect(t, "Both", []any{a, digits}, s, e, "", api.ErrSpan)
		}
		for _, a := range []api.Span{{}, {Lo: -1, Hi: 1}, {Lo: -api.MaxFix, Hi: api.MaxFix}} {
			s, e := dec.Both(a, digits)
			expect(t, "Both", []any{a, digits}, s, e, "", api.ErrArg)
		}
	}
	for _, a := range invalid {
		for digits := range maxPlaces + 1 {
			s, e := dec.Both(a, digits)
			expect(t, "Both", []any{a, digits}, s, e, "", api.ErrSpan)
		}
	}
}
