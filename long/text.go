package long

import (
	"strconv"

	"monocle/api"
)

// decimals is the number of decimal digits of a digit.
const decimals = 9

// Text returns the decimal text.
func Text(a api.Long) (string, api.Errno) {
	if e := checkAll(a); e != api.OK {
		return "", e
	}
	if len(a.Digits) == 0 {
		return "0", api.OK
	}
	text := make([]byte, 0, decimals*len(a.Digits)+1)
	if a.Neg {
		text = append(text, '-')
	}
	last := len(a.Digits) - 1
	text = strconv.AppendInt(text, int64(a.Digits[last]), 10)
	for i := last - 1; i >= 0; i-- {
		padded := strconv.Itoa(base + a.Digits[i]) // 1 and all decimal digits
		text = append(text, padded[1:]...)
	}
	return string(text), api.OK
}

// Parse returns the long integer whose decimal text is s; ErrForm if there is none, or ErrBig if it is too long.
func Parse(s string) (api.Long, api.Errno) {
	size := s
	neg := len(s) > 0 && s[0] == '-'
	if neg {
		size = s[1:]
	}
	switch {
	case s == "0":
		return api.Long{}, api.OK
	case !isPositive(size):
		return api.Long{}, api.ErrForm
	case len(size) > decimals*api.MaxLimbs:
		return api.Long{}, api.ErrBig
	}
	var d digits
	for end := len(size); end > 0; end -= decimals {
		d = append(d, number(size[max(0, end-decimals):end]))
	}
	return signed(neg, d)
}

// isPositive tells whether s has decimal digits alone, of which the first one is not 0.
func isPositive(s string) bool {
	for i := range len(s) {
		if s[i] < '0' || s[i] > '9' {
			return false
		}
	}
	return len(s) > 0 && s[0] != '0'
}

// number returns the number with those decimal digits.
func number(s string) int {
	n := 0
	for i := range len(s) {
		n = 10*n + int(s[i]-'0')
	}
	return n
}
