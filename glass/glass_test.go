package glass_test

import (
	"fmt"
	"math"
	"math/big"
	"math/rand/v2"
	"slices"
	"strings"
	"testing"

	"monocle/api"
	"monocle/glass"
)

const letters = "ABCDEFGHIJKLMNOPQRSTUVWXYZabcdefghijklmnopqrstuvwxyz0123456789-_"

// sameIndex reports an index, or an error, that is not the wanted one.
func sameIndex(t *testing.T, g api.Glass, length, want int, wantE api.Errno) {
	t.Helper()
	if n, e := glass.Index(g, length); n != want || e != wantE {
		t.Errorf("Index(%v, %d): %d, error %d; want %d, error %d", g, length, n, e, want, wantE)
	}
}

// P9.1: each octet at each place of a name, and nothing else, is tested for being a character of names.
func TestNameCharacters(t *testing.T) {
	for c := range 256 {
		want := strings.IndexByte(letters, byte(c)) >= 0
		for n := 1; n <= api.MaxName; n++ {
			for k := range n {
				b := []byte("aZ09-_xYbA12_-zC")[:n]
				b[k] = byte(c)
				if got := glass.Name(string(b)); got != want {
					t.Fatalf("Name(%q): %v", b, got)
				}
			}
		}
	}
}

// P9.1: names have 1 to 16 characters. MIRROR is a name, though not of a glass.
func TestNameLengths(t *testing.T) {
	for n := range 300 {
		if got := glass.Name(strings.Repeat("a", n)); got != (n >= 1 && n <= 16) {
			t.Errorf("Name with %d characters: %v", n, got)
		}
	}
	for _, s := range []string{"\xff", "é", "aé", "\u0391", "Ａ", " a", "a ", "a\n", "a\x00", "N BK7", "a.b", "\u212a"} {
		if glass.Name(s) {
			t.Errorf("Name(%q)", s)
		}
	}
	for _, s := range []string{"MIRROR", "N-BK7", "_", "-", "0", "ABCDEFGHIJKLMNOP"} {
		if !glass.Name(s) {
			t.Errorf("Name(%q): false", s)
		}
	}
}

// variant is a glass with what is said of it.
type variant struct {
	what string
	api.Glass
}

// changed returns g with a change.
func changed(what string, g api.Glass, change func(g *api.Glass)) variant {
	change(&g)
	return variant{fmt.Sprintf("%s, formula %d", what, g.Formula), g}
}

// invalid returns glasses of all formulas for which one condition does not hold: most are one beyond its limit.
func invalid() []variant {
	var list []variant
	for _, g := range glasses() {
		add := func(what string, change func(g *api.Glass)) { list = append(list, changed(what, g, change)) }
		for _, name := range []string{"", "ABCDEFGHIJKLMNOPQ", "MIRROR", "a b", "a\x80"} {
			add("name "+name, func(g *api.Glass) { g.Name = name })
		}
		for _, formula := range []int{0, 4, -1, math.MinInt, math.MaxInt} {
			add(fmt.Sprint("formula ", formula), func(g *api.Glass) { g.Formula = formula })
		}
		for _, low := range []int{api.MinWave - 1, g.High + 1, 0, -400000, math.MinInt, math.MaxInt} {
			add(fmt.Sprint("Low ", low), func(g *api.Glass) { g.Low = low })
		}
		for _, high := range []int{api.MaxWave + 1, g.Low - 1, 0, math.MinInt, math.MaxInt} {
			add(fmt.Sprint("High ", high), func(g *api.Glass) { g.High = high })
		}
		add("both below", func(g *api.Glass) { g.Low, g.High = 299999, 299999 })
		add("both beyond", func(g *api.Glass) { g.Low, g.High = 2500001, 2500001 })
		add("both far beyond", func(g *api.Glass) { g.Low, g.High = math.MaxInt, math.MaxInt })
		for k := range 6 {
			for _, c := range []int{api.MaxGlassCoef + 1, -api.MaxGlassCoef - 1, math.MinInt, math.MaxInt, math.MinInt / 1000 * 1000} {
				add(fmt.Sprintf("coefficient %d of %d", c, k), func(g *api.Glass) { g.Coef[k] = c })
			}
		}
	}
	for k := 1; k < 6; k += 2 {
		// Low^2 is 1000 Coef[k], less than it, or less than it for the greatest one of them.
		for _, c := range []int{160000000, 160000001, 490000000, api.MaxGlassCoef} {
			list = append(list, changed("resonance", glassA(), func(g *api.Glass) { g.Coef[k] = c }))
		}
		list = append(list, changed("resonance at the end", glassA(), func(g *api.Glass) { g.Low, g.High, g.Coef[k] = 2500000, 2500000, 6250000000 }))
	}
	for k := 3; k < 6; k++ {
		for _, c := range []int{1, -1, api.MaxGlassCoef} {
			list = append(list, changed("coefficient of Cauchy's formula", glassB(), func(g *api.Glass) { g.Coef[k] = c }))
		}
	}
	return list
}

// extreme returns valid glasses for which one condition holds just so.
func extreme() []variant {
	var list []variant
	for _, g := range glasses() {
		add := func(what string, change func(g *api.Glass)) { list = append(list, changed(what, g, change)) }
		for _, name := range []string{"x", "ABCDEFGHIJKLMNOP", "mirror", "MIRROR1", "MIRRO", "Mirror", "-", "_9"} {
			add("name "+name, func(g *api.Glass) { g.Name = name })
		}
		add("least Low", func(g *api.Glass) { g.Low = 300000 })
		add("greatest High", func(g *api.Glass) { g.High = 2500000 })
		add("Low is High", func(g *api.Glass) { g.Low = g.High })
		add("least wavelength", func(g *api.Glass) { g.Low, g.High = 300000, 300000 })
		add("greatest wavelength", func(g *api.Glass) { g.Low, g.High = 2500000, 2500000 })
		for k := range 6 {
			if g.Formula == api.FCauchy && k > 2 {
				continue
			}
			add(fmt.Sprint("least coefficient ", k), func(g *api.Glass) { g.Coef[k] = -1000000000000 })
			if g.Formula != api.FSellmeier || k%2 == 0 {
				add(fmt.Sprint("greatest coefficient ", k), func(g *api.Glass) { g.Coef[k] = 1000000000000 })
			}
		}
	}
	for k := 1; k < 6; k += 2 {
		list = append(list, changed("resonance", glassA(), func(g *api.Glass) { g.Coef[k] = 159999999 }))
		list = append(list, changed("resonance one picometre away", glassA(), func(g *api.Glass) { g.Coef[k], g.Low = 160000000, 400001 }))
		list = append(list, changed("resonance at the end", glassA(), func(g *api.Glass) { g.Low, g.High, g.Coef[k] = 2500000, 2500000, 6249999999 }))
	}
	return append(list, changed("no coefficients", glassA(), func(g *api.Glass) { g.Coef = [6]int{} }),
		changed("no coefficients", glassB(), func(g *api.Glass) { g.Coef = [6]int{} }),
		changed("no coefficients", crown(), func(g *api.Glass) { g.Coef = [6]int{} }))
}

// P9.1: each condition at its limit, and beyond.
func TestCheck(t *testing.T) {
	for _, v := range invalid() {
		if e := glass.Check(v.Glass); e != api.ErrGlass {
			t.Errorf("%s: error %d of %v", v.what, e, v.Glass)
		}
	}
	for _, v := range extreme() {
		if e := glass.Check(v.Glass); e != api.OK {
			t.Errorf("%s: error %d of %v", v.what, e, v.Glass)
		}
	}
	for _, g := range append(someGlasses(1, 3000), glassA(), api.Glass{Name: "MIRRORS", Formula: 3, Low: 300000, High: 2500000}) {
		if e := glass.Check(g); e != api.OK {
			t.Errorf("error %d of %v", e, g)
		}
	}
	if e := glass.Check(api.Glass{}); e != api.ErrGlass {
		t.Errorf("no glass: error %d", e)
	}
}

// P9.1 to P9.3: an invalid glass has ErrGlass, whatever the wavelengths are.
func TestInvalidFirst(t *testing.T) {
	for _, v := range append(invalid(), variant{"no glass", api.Glass{}}) {
		for _, length := range []int{550000, v.Low, v.High, 0, api.LineF, math.MinInt, math.MaxInt} {
			s, e := glass.Square(v.Glass, length)
			sameQuot(t, "Square: "+v.what, s, e, nil, api.ErrGlass)
			sameIndex(t, v.Glass, length, 0, api.ErrGlass)
			for _, other := range []int{550000, -1} {
				p, e := glass.Partial(v.Glass, length, other)
				sameQuot(t, "Partial: "+v.what, p, e, nil, api.ErrGlass)
				p, e = glass.Partial(v.Glass, other, length)
				sameQuot(t, "Partial: "+v.what, p, e, nil, api.ErrGlass)
			}
		}
		a, e := glass.Abbe(v.Glass)
		sameQuot(t, "Abbe: "+v.what, a, e, nil, api.ErrGlass)
	}
}

// lengths returns wavelengths in and around the range of a glass.
func lengths(source *rand.Rand, g api.Glass) []int {
	return []int{g.Low, g.High, g.Low - 1, g.High + 1, g.Low + source.IntN(g.High-g.Low+1), wavelength(source)}
}

// compareAt tests the square and the index of a glass at a wavelength, and returns the error of the index.
func compareAt(t *testing.T, g api.Glass, length int) api.Errno {
	t.Helper()
	s, e := glass.Square(g, length)
	what := fmt.Sprintf("Square(%v, %d)", g, length)
	if length < g.Low || length > g.High {
		sameQuot(t, what, s, e, nil, api.ErrArg)
	} else {
		sameQuot(t, what, s, e, squareOf(g, length), api.OK)
	}
	n, e := indexOf(g, length)
	sameIndex(t, g, length, n, e)
	return e
}

// P9.1, P9.2: squares and indices of all formulas, with coefficients of all sizes and both signs.
func TestSquaresAndIndices(t *testing.T) {
	source := rand.New(rand.NewPCG(2, 9))
	counts := map[[2]int]int{}
	for _, g := range someGlasses(2, 1500) {
		for _, length := range lengths(source, g) {
			counts[[2]int{g.Formula, int(compareAt(t, g, length))}]++
		}
	}
	for _, formula := range []int{api.FSellmeier, api.FCauchy, api.FSchott} {
		for _, e := range []api.Errno{api.OK, api.ErrArg, api.ErrBig} {
			if counts[[2]int{formula, int(e)}] < 500 {
				t.Errorf("formula %d, error %d: just %d times", formula, e, counts[[2]int{formula, int(e)}])
			}
		}
	}
}

// P9.1, P9.2: the same for glasses with a condition that holds just so.
func TestExtremeGlasses(t *testing.T) {
	for _, v := range extreme() {
		for _, length := range []int{v.Low, v.High, (v.Low + v.High) / 2} {
			compareAt(t, v.Glass, length)
		}
	}
}

// P9.1: each coefficient has its place in the formula.
func TestPlacesOfCoefficients(t *testing.T) {
	for _, formula := range []int{api.FSellmeier, api.FCauchy, api.FSchott} {
		for k := range 6 {
			g := api.Glass{Name: "g", Formula: formula, Low: 400000, High: 2500000}
			if formula == api.FSellmeier {
				g.Coef[k&^1], g.Coef[k|1] = 3000000000, 100000*k
			} else if formula == api.FSchott || k < 3 {
				g.Coef[k] = 3000000000
			}
			for _, length := range []int{400000, 500000, 1000000, 2000000, 2500000} {
				compareAt(t, g, length)
			}
		}
	}
}

// P9.1, P9.2: the range of a glass has both of its ends, and nothing beyond.
func TestRange(t *testing.T) {
	for _, g := range glasses() {
		for _, length := range []int{g.Low, g.Low + 1, g.High - 1, g.High} {
			if e := compareAt(t, g, length); e != api.OK {
				t.Errorf("%s at %d: error %d", g.Name, length, e)
			}
		}
		for _, length := range []int{g.Low - 1, g.High + 1, 0, -g.Low, api.MinWave, api.MaxWave, math.MinInt, math.MaxInt, 1 << 32, -1} {
			if e := compareAt(t, g, length); e != api.ErrArg {
				t.Errorf("%s at %d: error %d", g.Name, length, e)
			}
		}
	}
}

// P9.2: the limits of indices, and halves, which are rounded up.
func TestLimitsOfIndices(t *testing.T) {
	for _, x := range []struct {
		a0, want int
		e        api.Errno
	}{
		{1500000000, 15000000, api.OK},
		{1500000049, 15000000, api.OK},
		{1500000050, 15000001, api.OK},
		{1500000051, 15000001, api.OK},
		{1500000149, 15000001, api.OK},
		{1500000150, 15000002, api.OK},
		{1000000000, 10000000, api.OK},
		{999999950, 10000000, api.OK},
		{999999949, 0, api.ErrBig},
		{999999900, 0, api.ErrBig},
		{4000000000, 40000000, api.OK},
		{4000000049, 40000000, api.OK},
		{4000000050, 0, api.ErrBig},
		{3999999950, 40000000, api.OK},
		{3999999949, 39999999, api.OK},
		{0, 0, api.ErrBig},
		{1, 0, api.ErrBig},
		{-1, 0, api.ErrBig},
		{-1500000000, 0, api.ErrBig},
		{api.MaxGlassCoef, 0, api.ErrBig},
		{-api.MaxGlassCoef, 0, api.ErrBig},
	} {
		g := glassB()
		g.Coef = [6]int{x.a0}
		sameIndex(t, g, 500000, x.want, x.e)
		compareAt(t, g, 500000)
	}
}

// The index 10^7 is that of a glass without any dispersion, for which a square of 1 or 16 is at a limit (P9.2).
func TestLimitsOfSquares(t *testing.T) {
	for _, x := range []struct {
		formula, a0, want int
		e                 api.Errno
	}{
		{api.FSellmeier, 0, 10000000, api.OK},
		{api.FSellmeier, -99, 10000000, api.OK}, // 1 - 10^-7 is the square of 1 - 0.5 10^-7 and a bit
		{api.FSellmeier, -100, 0, api.ErrBig},
		{api.FSellmeier, 15000000000, 40000000, api.OK},
		{api.FSellmeier, 15000000400, 40000000, api.OK}, // the square of 4 + 0.5 10^-7 is 16 + 4 10^-7 and a bit
		{api.FSellmeier, 15000000401, 0, api.ErrBig},
		{api.FSchott, 1000000000, 10000000, api.OK},
		{api.FSchott, 999999901, 10000000, api.OK},
		{api.FSchott, 999999900, 0, api.ErrBig},
		{api.FSchott, 16000000400, 40000000, api.OK},
		{api.FSchott, 16000000401, 0, api.ErrBig},
		{api.FSchott, 0, 0, api.ErrBig},
		{api.FSchott, -1, 0, api.ErrBig},
		{api.FSchott, -2250000000, 0, api.ErrBig},
		{api.FSellmeier, -1000000000, 0, api.ErrBig},
		{api.FSellmeier, -1000000001, 0, api.ErrBig},
		{api.FSellmeier, -3250000000, 0, api.ErrBig},
	} {
		g := api.Glass{Name: "g", Formula: x.formula, Coef: [6]int{x.a0}, Low: 400000, High: 700000}
		sameIndex(t, g, 500000, x.want, x.e)
		compareAt(t, g, 500000)
	}
}

// halfSellmeier returns a glass, and a wavelength at which 10^7 times the root of the square is 11000012.5.
func halfSellmeier() (api.Glass, int) {
	g := api.Glass{Name: "half", Formula: api.FSellmeier, Low: 400000, High: 400000}
	g.Coef[0] = (22000025*22000025 - 400000000000000) / 125
	g.Coef[1] = 160000000 - 512000000000 // the divisor is 2^18 5^9 10^-9 then
	return g, 400000
}

// halfSchott returns a glass, and a wavelength at which 10^7 times the root of the square is n + 1/2: its first two coefficients add up to (2n + 1)^2 / (4 10^14).
func halfSchott(n int) (api.Glass, int) {
	const length = 500001
	unit := big.NewInt(1000000000000)
	square := big.NewInt(int64(2*n + 1))
	square.Mul(square, square)
	total := square.Mul(square, big.NewInt(2500000)) // what is 10^12 Coef[0] + length^2 Coef[1]
	factor := big.NewInt(length * length)
	second := new(big.Int).ModInverse(factor, unit)
	second.Mul(second, total).Mod(second, unit)
	first := new(big.Int).Sub(total, factor.Mul(factor, second))
	first.Div(first, unit)
	g := api.Glass{Name: "half", Formula: api.FSchott, Low: length, High: length}
	g.Coef[0], g.Coef[1] = int(first.Int64()), int(second.Int64())
	return g, length
}

// P9.2: a half is rounded up for the other formulas, too, and what is just less is rounded down.
func TestHalves(t *testing.T) {
	check := func(g api.Glass, length, n int) {
		t.Helper()
		if s := squareOf(g, length); s.Cmp(power(big.NewRat(int64(2*n+1), 20000000), 2)) != 0 {
			t.Errorf("the square %s of %v is not that of %d and a half", s, g, n)
		}
		sameIndex(t, g, length, n+1, api.OK)
		less := g
		if g.Formula == api.FSchott {
			less.Coef[1]--
		} else {
			less.Coef[0]--
		}
		sameIndex(t, less, length, n, api.OK)
		compareAt(t, less, length)
	}
	g, length := halfSellmeier()
	check(g, length, 11000012)
	for _, n := range []int{10000000, 14142135, 15000000, 15000001, 23456789, 39999999} {
		g, length := halfSchott(n)
		check(g, length, n)
	}
	g, length = halfSchott(9999999)
	sameIndex(t, g, length, 10000000, api.OK)
	g, length = halfSchott(40000000)
	sameIndex(t, g, length, 0, api.ErrBig)
}

// P9.1, P9.2: squares may be negative, and greater than those of any index.
func TestSquaresWithoutIndex(t *testing.T) {
	near := glassA() // its first divisor is 10^-9 at Low
	near.Coef[0], near.Coef[1] = api.MaxGlassCoef, 159999999
	minus := near
	minus.Coef[0] = -api.MaxGlassCoef
	steep := crown()
	steep.Low = api.MinWave
	for k := range 6 {
		steep.Coef[k] = api.MaxGlassCoef
	}
	falling := steep
	for k := range 6 {
		falling.Coef[k] = -api.MaxGlassCoef
	}
	for _, g := range []api.Glass{near, minus, steep, falling} {
		if e := compareAt(t, g, g.Low); e != api.ErrBig {
			t.Errorf("%v: error %d", g, e)
		}
	}
}

// P9.2: a negative root has no index, though its square would have one.
func TestNegativeRoot(t *testing.T) {
	for _, c := range [][3]int{{-1500000000, 0, 0}, {0, -375000000, 0}, {0, 0, -93750000}, {1000000000, -625000000, 0}, {-1000000000, 0, -31250000}} {
		g := glassB()
		copy(g.Coef[:], c[:])
		if s := squareOf(g, 500000); s.Cmp(big.NewRat(9, 4)) != 0 {
			t.Errorf("%v: the square is %s", g, s)
		}
		if e := compareAt(t, g, 500000); e != api.ErrBig {
			t.Errorf("%v: error %d", g, e)
		}
		for k := range g.Coef {
			g.Coef[k] = -g.Coef[k]
		}
		sameIndex(t, g, 500000, 15000000, api.OK)
	}
}

// P9.3: Abbe numbers and partial dispersions of all formulas.
func TestDispersions(t *testing.T) {
	source := rand.New(rand.NewPCG(3, 9))
	counts := map[[2]int]int{}
	for i, g := range someGlasses(3, 3000) {
		if i%4 > 0 {
			g.Low, g.High = min(g.Low, 480000), max(g.High, 660000)
		}
		if glass.Check(g) != api.OK {
			continue // a resonance is in the range now
		}
		want, wantE := abbeOf(g)
		a, e := glass.Abbe(g)
		sameQuot(t, fmt.Sprintf("Abbe(%v)", g), a, e, want, wantE)
		counts[[2]int{g.Formula, int(wantE)}]++
		x, y := lengths(source, g)[source.IntN(6)], lengths(source, g)[source.IntN(6)]
		want, wantE = partialOf(g, x, y)
		p, e := glass.Partial(g, x, y)
		sameQuot(t, fmt.Sprintf("Partial(%v, %d, %d)", g, x, y), p, e, want, wantE)
	}
	for _, formula := range []int{api.FSellmeier, api.FCauchy, api.FSchott} {
		for _, e := range []api.Errno{api.OK, api.ErrArg, api.ErrBig, api.ErrZero} {
			if counts[[2]int{formula, int(e)}] < 50 {
				t.Errorf("formula %d, error %d: just %d times", formula, e, counts[[2]int{formula, int(e)}])
			}
		}
	}
}

// through returns a glass with Cauchy's formula that has indices of about these tenths at the lines F, d and C.
func through(f, d, c int64) api.Glass {
	lines := []int{api.LineF, api.LineD, api.LineC}
	var total [3]*big.Rat
	for k := range total {
		total[k] = new(big.Rat)
	}
	for i, tenths := range []int64{f, d, c} {
		// The polynomial in 1 / w that is 1 at one line and 0 at the two others.
		u, v, w := power(microns(lines[i]), -2), power(microns(lines[(i+1)%3]), -2), power(microns(lines[(i+2)%3]), -2)
		scale := new(big.Rat).Mul(new(big.Rat).Sub(u, v), new(big.Rat).Sub(u, w))
		scale.Quo(big.NewRat(tenths, 10), scale)
		for k, x := range []*big.Rat{new(big.Rat).Mul(v, w), new(big.Rat).Neg(new(big.Rat).Add(v, w)), big.NewRat(1, 1)} {
			total[k].Add(total[k], x.Mul(x, scale))
		}
	}
	g := api.Glass{Name: "through", Formula: api.FCauchy, Low: 400000, High: 700000}
	for k, x := range total {
		x.Mul(x, big.NewRat(1000000000, 1))
		g.Coef[k] = int(new(big.Int).Div(x.Num(), x.Denom()).Int64())
	}
	return g
}

// within returns the glass with another range.
func within(g api.Glass, low, high int) api.Glass {
	g.Low, g.High = low, high
	return g
}

// P9.3: the error of the first wavelength that has one, and ErrZero after these.
func TestOrderOfErrorsOfAbbe(t *testing.T) {
	for _, x := range []struct {
		what string
		g    api.Glass
		e    api.Errno
	}{
		{"all", through(16, 15, 14), api.OK},
		{"d without index", through(16, 9, 14), api.ErrBig},
		{"F without index", through(9, 15, 14), api.ErrBig},
		{"C without index", through(16, 15, 9), api.ErrBig},
		{"F out of range", within(through(16, 15, 14), 486134, 700000), api.ErrArg},
		{"C out of range", within(through(16, 15, 14), 400000, 656272), api.ErrArg},
		{"d and C out of range", within(through(16, 15, 14), 400000, 587561), api.ErrArg},
		{"d and F out of range", within(through(16, 15, 14), 587563, 700000), api.ErrArg},
		{"just in range", within(through(16, 15, 14), 486133, 656273), api.OK},
		{"d without index, then F out of range", within(through(16, 9, 14), 500000, 700000), api.ErrBig},
		{"d without index, then C out of range", within(through(16, 9, 14), 400000, 600000), api.ErrBig},
		{"d out of range, then F without index", within(through(9, 15, 14), 400000, 500000), api.ErrArg},
		{"d out of range, then C without index", within(through(16, 15, 9), 600000, 700000), api.ErrArg},
		{"F out of range, then C without index", within(through(16, 15, 9), 500000, 700000), api.ErrArg},
		{"F without index, then C out of range", within(through(9, 15, 14), 400000, 600000), api.ErrBig},
		{"the same for F and C", through(15, 18, 15), api.ErrZero},
		{"the same for F and C, none for d", through(15, 9, 15), api.ErrBig},
		{"all out of range", within(through(16, 15, 14), 300000, 400000), api.ErrArg},
	} {
		want, wantE := abbeOf(x.g)
		if wantE != x.e {
			t.Errorf("%s: error %d of %v is expected, not %d", x.what, wantE, x.g, x.e)
		}
		a, e := glass.Abbe(x.g)
		sameQuot(t, x.what, a, e, want, x.e)
	}
}

// P9.3: the same for partial dispersions.
func TestOrderOfErrorsOfPartial(t *testing.T) {
	const d, far = api.LineD, 800000
	for _, v := range []struct {
		what string
		g    api.Glass
		x, y int
		e    api.Errno
	}{
		{"all", through(16, 15, 14), d, 400000, api.OK},
		{"F without index, then x out of range", through(9, 15, 14), far, d, api.ErrBig},
		{"F without index, then C out of range", within(through(9, 15, 14), 400000, 600000), d, d, api.ErrBig},
		{"F out of range, then C without index", within(through(16, 15, 9), 500000, 700000), d, d, api.ErrArg},
		{"F out of range, then x without index", within(through(16, 9, 14), 500000, 700000), d, d, api.ErrArg},
		{"C out of range, then x without index", within(through(16, 9, 14), 400000, 600000), d, d, api.ErrArg},
		{"C out of range, then y without index", within(through(16, 9, 14), 400000, 600000), api.LineF, d, api.ErrArg},
		{"C without index, then x out of range", through(16, 15, 9), far, d, api.ErrBig},
		{"C without index, then y out of range", through(16, 15, 9), d, far, api.ErrBig},
		{"x without index, then y out of range", through(16, 9, 14), d, far, api.ErrBig},
		{"x out of range, then y without index", through(16, 9, 14), far, d, api.ErrArg},
		{"x without index", through(16, 9, 14), d, api.LineF, api.ErrBig},
		{"y without index", through(16, 9, 14), api.LineC, d, api.ErrBig},
		{"x out of range", through(16, 15, 14), 700001, d, api.ErrArg},
		{"y out of range", through(16, 15, 14), d, 399999, api.ErrArg},
		{"x no wavelength", through(16, 15, 14), math.MinInt, d, api.ErrArg},
		{"y no wavelength", through(16, 15, 14), d, math.MaxInt, api.ErrArg},
		{"both at the ends", through(16, 15, 14), 400000, 700000, api.OK},
		{"the same for F and C", through(15, 18, 15), d, api.LineF, api.ErrZero},
		{"the same for F and C, and x and y", through(15, 18, 15), d, d, api.ErrZero},
		{"the same for F and C, none for x", through(15, 9, 15), d, api.LineF, api.ErrBig},
		{"the same for F and C, y out of range", through(15, 18, 15), d, far, api.ErrArg},
	} {
		want, wantE := partialOf(v.g, v.x, v.y)
		if wantE != v.e {
			t.Errorf("%s: error %d of %v is expected, not %d", v.what, wantE, v.g, v.e)
		}
		p, e := glass.Partial(v.g, v.x, v.y)
		sameQuot(t, v.what, p, e, want, v.e)
	}
}

// What was returned may be changed without an effect on later results, and arguments are as before (R3, R5).
func TestResultsAreNew(t *testing.T) {
	for _, g := range glasses() {
		before := g
		for _, f := range []func() (api.Quot, api.Errno){
			func() (api.Quot, api.Errno) { return glass.Square(g, 500000) },
			func() (api.Quot, api.Errno) { return glass.Abbe(g) },
			func() (api.Quot, api.Errno) { return glass.Partial(g, api.LineD, 500000) },
			func() (api.Quot, api.Errno) { return glass.Partial(g, api.LineF, api.LineC) },
		} {
			first, e := f()
			n, d := slices.Clone(first.N.Digits), slices.Clone(first.D.Digits)
			clear(first.N.Digits[:cap(first.N.Digits)])
			clear(first.D.Digits[:cap(first.D.Digits)])
			again, e2 := f()
			if e != api.OK || e2 != api.OK || !slices.Equal(again.N.Digits, n) || !slices.Equal(again.D.Digits, d) {
				t.Errorf("%s: %v / %v, error %d, and then %v, error %d", g.Name, n, d, e, again, e2)
			}
		}
		glass.Check(g)
		glass.Index(g, 500000)
		if g != before {
			t.Errorf("%v is %v now", before, g)
		}
	}
}
