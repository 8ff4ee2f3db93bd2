package dec

import (
	"strings"
)

// numeral is the text of a decimal number, taken apart: its sign, and the digits ahead of the period and behind it.
type numeral struct {
	sign, whole, places string
}

// split takes a text apart, and tells whether it is the text of a decimal number, of any size and any number of places.
func split(s string) (numeral, bool) {
	size, negative := strings.CutPrefix(s, "-")
	x := numeral{sign: s[:len(s)-len(size)], whole: size[:leading(size)]}
	rest := size[len(x.whole):]
	if x.whole == "" || x.whole[0] == '0' && x.whole != "0" {
		return numeral{}, false
	}
	if rest == "" {
		return x, !negative || x.whole != "0"
	}
	places, period := strings.CutPrefix(rest, ".")
	if !period || places == "" || leading(places) != len(places) || strings.HasSuffix(places, "0") {
		return numeral{}, false
	}
	x.places = places
	return x, true
}

// leading returns the number of decimal digits with which s begins.
func leading(s string) int {
	count := 0
digits:
	for _, r := range s {
		switch {
		case '0' <= r && r <= '9':
			count++
		default:
			break digits
		}
	}
	return count
}
