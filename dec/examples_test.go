package dec_test

import (
	"testing"

	"monocle/api"
	"monocle/dec"
)

// The chapter's examples of Text (P5.1).
func TestExamplesOfText(t *testing.T) {
	for _, x := range []struct {
		n, digits int
		want      string
		e         api.Errno
	}{
		{12500, 3, "12.5", api.OK},
		{-5, 1, "-0.5", api.OK},
		{0, 6, "0", api.OK},
		{7, 0, "7", api.OK},
		{1, 19, "", api.ErrArg},
	} {
		s, e := dec.Text(x.n, x.digits)
		expect(t, "Text", []any{x.n, x.digits}, s, e, x.want, x.e)
	}
}

// The chapter's examples of Parse (P5.2).
func TestExamplesOfParse(t *testing.T) {
	for _, x := range []struct {
		s            string
		digits, want int
		e            api.Errno
	}{
		{"12.5", 3, 12500, api.OK},
		{"-0.5", 1, -5, api.OK},
		{"0.25", 1, 0, api.ErrForm},
		{"1.0", 3, 0, api.ErrForm},
		{".5", 3, 0, api.ErrForm},
		{"+1", 3, 0, api.ErrForm},
		{"01", 3, 0, api.ErrForm},
		{"-0", 3, 0, api.ErrForm},
		{"1.", 3, 0, api.ErrForm},
		{"9223372036854775808", 0, 0, api.ErrBig},
		{"1", 19, 0, api.ErrArg},
	} {
		n, e := dec.Parse(x.s, x.digits)
		expect(t, "Parse", []any{x.s, x.digits}, n, e, x.want, x.e)
	}
}

// The chapter's examples of Fixed (P5.3).
func TestExamplesOfFixed(t *testing.T) {
	for _, x := range []struct {
		v, digits int
		up        bool
		want      string
	}{
		{1 << 31, 0, false, "0"},
		{1 << 31, 0, true, "1"},
		{-1, 3, false, "-0.001"},
		{1 << 31, 3, true, "0.5"},
	} {
		s, e := dec.Fixed(x.v, x.digits, x.up)
		expect(t, "Fixed", []any{x.v, x.digits, x.up}, s, e, x.want, api.OK)
	}
}

// The chapter's examples of Both (P5.3).
func TestExamplesOfBoth(t *testing.T) {
	thirds := api.Span{Lo: -1431655766, Hi: 2863311531}
	s, e := dec.Both(thirds, 3)
	expect(t, "Both", []any{thirds, 3}, s, e, "[-0.334, 0.667]", api.OK)
	inverted := api.Span{Lo: 1, Hi: 0}
	s, e = dec.Both(inverted, 3)
	expect(t, "Both", []any{inverted, 3}, s, e, "", api.ErrSpan)
}
