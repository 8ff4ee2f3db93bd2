package glass_test

import (
	"math/big"
	"math/rand/v2"
	"sort"
	"testing"

	"monocle/api"
	"monocle/quot"
)

// The three glasses of the chapter's examples, and one with Schott's formula, which is that of a crown glass.
func glassA() api.Glass {
	return api.Glass{Name: "A", Formula: api.FSellmeier, Coef: [6]int{1000000000}, Low: 400000, High: 700000}
}

func glassB() api.Glass {
	return api.Glass{Name: "B", Formula: api.FCauchy, Coef: [6]int{1500000000, 10000000}, Low: 400000, High: 700000}
}

func glassC() api.Glass {
	return api.Glass{Name: "C", Formula: api.FSellmeier, Coef: [6]int{1000000000, 10000000}, Low: 400000, High: 700000}
}

func crown() api.Glass {
	return api.Glass{Name: "crown", Formula: api.FSchott, Coef: [6]int{2271892900, -10108077, 10592509, 208170, -7647, 492}, Low: 365000, High: 1014000}
}

// glasses returns a glass of each formula.
func glasses() []api.Glass {
	return []api.Glass{glassC(), glassB(), crown()}
}

// part returns the coefficient k of a glass.
func part(g api.Glass, k int) *big.Rat {
	return big.NewRat(int64(g.Coef[k]), 1000000000)
}

// microns returns the wavelength in micrometres.
func microns(length int) *big.Rat {
	return big.NewRat(int64(length), 1000000)
}

// power returns x to the power n, which may be negative.
func power(x *big.Rat, n int) *big.Rat {
	r := big.NewRat(1, 1)
	for range max(n, -n) {
		r.Mul(r, x)
	}
	if n < 0 {
		r.Inv(r)
	}
	return r
}

// number returns what the table of the section Terms says of a glass: its square, or that of which the square is taken.
func number(g api.Glass, length int) *big.Rat {
	l := microns(length)
	total := new(big.Rat)
	switch g.Formula {
	case api.FSellmeier:
		total.SetInt64(1)
		for k := 0; k < 6; k += 2 {
			w := power(l, 2)
			term := new(big.Rat).Quo(w, new(big.Rat).Sub(w, part(g, k+1)))
			total.Add(total, term.Mul(term, part(g, k)))
		}
	case api.FCauchy:
		for k := range 3 {
			total.Add(total, new(big.Rat).Mul(part(g, k), power(l, -2*k)))
		}
	case api.FSchott:
		for k, n := range []int{0, 2, -2, -4, -6, -8} {
			total.Add(total, new(big.Rat).Mul(part(g, k), power(l, n)))
		}
	}
	return total
}

// squareOf returns the square of a glass at a wavelength of its range.
func squareOf(g api.Glass, length int) *big.Rat {
	if g.Formula == api.FCauchy {
		return power(number(g, length), 2)
	}
	return number(g, length)
}

// isAtLeast tells whether 10^7 times the root of the square s is at least n - 1/2.
func isAtLeast(s *big.Rat, n int) bool {
	bound := big.NewInt(int64(2*n - 1))
	left := new(big.Rat).SetInt(bound.Mul(bound, bound))
	return left.Cmp(new(big.Rat).Mul(s, big.NewRat(400000000000000, 1))) <= 0
}

// indexOf returns the index that the section Terms defines, or the error of P9.2.
func indexOf(g api.Glass, length int) (int, api.Errno) {
	if length < g.Low || length > g.High {
		return 0, api.ErrArg
	}
	s := squareOf(g, length)
	if number(g, length).Sign() < 0 || !isAtLeast(s, api.MinIndex) || isAtLeast(s, api.MaxIndex+1) {
		return 0, api.ErrBig
	}
	above := sort.Search(api.MaxIndex+1, func(n int) bool { return n > 0 && !isAtLeast(s, n) })
	return above - 1, api.OK
}

// dispersion returns (nx - ny) / (nF - nC), or (nx - 10^7) / (nF - nC) if y is 0, and the error of the first of the wavelengths in their order, or ErrZero.
func dispersion(g api.Glass, order []int, x, y int) (*big.Rat, api.Errno) {
	n := map[int]int{0: 10000000}
	for _, length := range order {
		var e api.Errno
		if n[length], e = indexOf(g, length); e != api.OK {
			return nil, e
		}
	}
	if n[api.LineF] == n[api.LineC] {
		return nil, api.ErrZero
	}
	return big.NewRat(int64(n[x]-n[y]), int64(n[api.LineF]-n[api.LineC])), api.OK
}

func abbeOf(g api.Glass) (*big.Rat, api.Errno) {
	return dispersion(g, []int{api.LineD, api.LineF, api.LineC}, api.LineD, 0)
}

func partialOf(g api.Glass, x, y int) (*big.Rat, api.Errno) {
	return dispersion(g, []int{api.LineF, api.LineC, x, y}, x, y)
}

// sameQuot reports a fraction, or an error, that is not the wanted one. With an error, the fraction is the zero value.
func sameQuot(t *testing.T, what string, r api.Quot, e api.Errno, want *big.Rat, wantE api.Errno) {
	t.Helper()
	if wantE != api.OK {
		if e != wantE || r.N.Neg || r.N.Digits != nil || r.D.Neg || r.D.Digits != nil {
			t.Errorf("%s: %v, error %d; want error %d", what, r, e, wantE)
		}
		return
	}
	if text, f := quot.Text(r); e != api.OK || f != api.OK || text != want.RatString() {
		t.Errorf("%s: %s, error %d; want %s", what, text, e, want.RatString())
	}
}

// coefficient returns a coefficient of either sign and any size: some are 0, or at a limit.
func coefficient(source *rand.Rand) int {
	limit := api.MaxGlassCoef
	switch source.IntN(8) {
	case 0:
		return 0
	case 1:
		return []int{-limit, limit, 1 - limit, limit - 1, 1, -1}[source.IntN(6)]
	}
	for range source.IntN(12) {
		limit /= 10
	}
	return source.IntN(2*limit+1) - limit
}

// wavelength returns a wavelength, which is often one of the lines or a limit.
func wavelength(source *rand.Rand) int {
	if source.IntN(4) == 0 {
		return []int{api.LineD, api.LineF, api.LineC, api.MinWave, api.MaxWave}[source.IntN(5)]
	}
	return api.MinWave + source.IntN(api.MaxWave-api.MinWave+1)>>source.IntN(4)
}

// someGlass returns a valid glass of a formula. Its first coefficient often gives it an index somewhere in its range, and is sometimes the only one.
func someGlass(source *rand.Rand, formula int) api.Glass {
	x, y := wavelength(source), wavelength(source)
	g := api.Glass{Name: "some", Formula: formula, Low: min(x, y), High: max(x, y)}
	for k := range 6 {
		if formula != api.FCauchy || k < 3 {
			g.Coef[k] = coefficient(source)
		}
		if formula == api.FSellmeier && k%2 == 1 {
			g.Coef[k] = min(g.Coef[k], (g.Low*g.Low-1)/1000-source.IntN(1000)>>source.IntN(12))
		}
	}
	if source.IntN(12) == 0 {
		g.Coef = [6]int{}
	}
	if source.IntN(4) > 0 {
		aim(source, &g, g.Low+source.IntN(g.High-g.Low+1))
	}
	return g
}

// aim gives a glass a first coefficient with which its index at a wavelength is some number from 0.9 to 4.4, if there is one. What the formula says depends on that coefficient in a linear way.
func aim(source *rand.Rand, g *api.Glass, length int) {
	target := big.NewRat(900000000+source.Int64N(3500000000), 1000000000)
	if g.Formula != api.FCauchy {
		target = power(target, 2)
	}
	base := *g
	base.Coef[0] = 0
	unit := base
	unit.Coef[0] = 1
	rise := new(big.Rat).Sub(number(unit, length), number(base, length))
	c := target.Quo(target.Sub(target, number(base, length)), rise)
	whole := new(big.Int).Div(c.Num(), c.Denom())
	if whole.CmpAbs(big.NewInt(api.MaxGlassCoef)) <= 0 {
		g.Coef[0] = int(whole.Int64())
	}
}

// someGlasses returns valid glasses of each formula: for a seed always the same ones.
func someGlasses(seed uint64, count int) []api.Glass {
	source := rand.New(rand.NewPCG(seed, 9))
	var list []api.Glass
	for range count {
		for _, formula := range []int{api.FSellmeier, api.FCauchy, api.FSchott} {
			list = append(list, someGlass(source, formula))
		}
	}
	return list
}
