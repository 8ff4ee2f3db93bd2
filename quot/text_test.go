package quot_test

import (
	"math/big"
	"strings"
	"testing"

	"monocle/api"
	"monocle/quot"
)

// P4.5: texts of fractions, and other texts, which have ErrForm.
func TestParse(t *testing.T) {
	for _, a := range append(edges(), fractions(8, 500)...) {
		r, e := quot.Parse(a.x.RatString())
		expect(t, "Parse", a.x, r, e, a.Quot, api.OK)
	}
	for _, s := range []string{
		"", "/", "1/", "/2", "1//2", "1/2/3", "1/2/", "/1/2", "2/4", "3/1", "0/1", "0/2", "1/0", "0/0", "1/-2", "-1/-2", "1/-1", "1/+2", "+1/2", "01/2", "1/02", "-0", "-0/2", "--1/2",
		" 1/2", "1/2 ", "1 /2", "1/ 2", "1.5", "1/2.0", "0.5/2", "x", "1/x", "x/2", "6/9", "-6/9", "1000000000/5", "1/2\n", "1\\2", "1:2", "\u0661/2",
	} {
		r, e := quot.Parse(s)
		expect(t, "Parse", s, r, e, api.Quot{}, api.ErrForm)
	}
}

// P4.5: the longest texts, and the order of the errors of longer ones: what is ahead of the slash comes first.
func TestParseLong(t *testing.T) {
	const most = 9 * api.MaxLimbs
	nines := strings.Repeat("9", most)
	power := "1" + strings.Repeat("0", most-1)
	for _, s := range []string{nines, "-" + nines, nines + "/" + power, "-" + power + "/" + nines, "1/" + nines} {
		x, _ := new(big.Rat).SetString(s)
		r, e := quot.Parse(s)
		expect(t, "Parse", "of a long text", r, e, fit(x)[0].Quot, api.OK)
	}
	for s, want := range map[string]api.Errno{
		nines + "9":                api.ErrBig,
		nines + "9/":               api.ErrBig,
		nines + "9/x":              api.ErrBig,
		nines + "9/1":              api.ErrBig,
		nines + "9/" + nines + "9": api.ErrBig,
		"1/" + nines + "9":         api.ErrBig,
		"-1/" + power + "0":        api.ErrBig,
		"2/" + power + "0":         api.ErrBig,
		"1/-" + nines + "9":        api.ErrBig,
		"x/" + nines + "9":         api.ErrForm,
		"/" + nines + "9":          api.ErrForm,
		nines + "/" + nines:        api.ErrForm,
		nines + "/1":               api.ErrForm,
		"1/-" + nines:              api.ErrForm,
		"1/" + nines + "x":         api.ErrForm,
	} {
		r, e := quot.Parse(s)
		expect(t, "Parse", s[:4]+"..", r, e, api.Quot{}, want)
	}
}
