package quot

import (
	"strings"

	"monocle/api"
	"monocle/long"
)

// text returns the text.
func (a fraction) text() (string, api.Errno) {
	n, e := long.Text(a.numerator.Long)
	if e != api.OK || a.denominator.isOne() {
		return n, e
	}
	d, e := long.Text(a.denominator.Long)
	return n + "/" + d, e
}

// Parse returns the fraction with the text s; the error of a number in it, or ErrForm if there is none.
func Parse(s string) (api.Quot, api.Errno) {
	ahead, behind, slash := strings.Cut(s, "/")
	if !slash {
		behind = "1"
	}
	n, e := long.Parse(ahead)
	if e != api.OK {
		return api.Quot{}, e
	}
	d, e := long.Parse(behind)
	if e != api.OK {
		return api.Quot{}, e
	}
	a := api.Quot{N: n, D: d}
	if f := given(a); slash && f.denominator.isOne() || !f.inLowestTerms() {
		return api.Quot{}, api.ErrForm
	}
	return a, api.OK
}
