package glass_test

import (
	"math/big"
	"math/rand/v2"
	"testing"

	"monocle/api"
	"monocle/glass"
	"monocle/quot"
)

// exact returns the number that a fraction stands for.
func exact(t *testing.T, a api.Quot) *big.Rat {
	t.Helper()
	text, e := quot.Text(a)
	x, ok := new(big.Rat).SetString(text)
	if e != api.OK || !ok {
		t.Fatalf("%v is no fraction", a)
	}
	return x
}

// P9.4: (2 n - 1)^2 is at most 4 10^14 s, and that is less than (2 n + 1)^2.
func TestIndexIsNearest(t *testing.T) {
	source := rand.New(rand.NewPCG(4, 9))
	count := 0
	for _, g := range someGlasses(4, 1500) {
		length := g.Low + source.IntN(g.High-g.Low+1)
		n, e := glass.Index(g, length)
		if e != api.OK {
			continue
		}
		count++
		s, e := glass.Square(g, length)
		if e != api.OK {
			t.Fatalf("Square(%v, %d): error %d", g, length, e)
		}
		four := new(big.Rat).Mul(exact(t, s), big.NewRat(400000000000000, 1))
		below, above := big.NewInt(int64(2*n-1)), big.NewInt(int64(2*n+1))
		below.Mul(below, below)
		above.Mul(above, above)
		if new(big.Rat).SetInt(below).Cmp(four) > 0 || new(big.Rat).SetInt(above).Cmp(four) <= 0 {
			t.Errorf("Index(%v, %d): %d, with the square %s", g, length, n, exact(t, s).FloatString(20))
		}
	}
	if count < 1000 {
		t.Errorf("just %d indices", count)
	}
}

// P9.4: a glass with Cauchy's formula, and a1 and a2 equal to 0, has the same index everywhere.
func TestConstantIndex(t *testing.T) {
	source := rand.New(rand.NewPCG(5, 9))
	for range 1000 {
		g := api.Glass{Name: "g", Formula: api.FCauchy, Low: api.MinWave, High: api.MaxWave}
		g.Coef[0] = 900000000 + source.IntN(3200000000)
		n, e := glass.Index(g, api.MinWave)
		for range 4 {
			sameIndex(t, g, wavelength(source), n, e)
		}
		sameIndex(t, g, api.MaxWave, n, e)
	}
}

// P9.4: a glass with Sellmeier's formula, and no negative coefficient, has no greater index at a greater wavelength.
func TestFallingIndex(t *testing.T) {
	source := rand.New(rand.NewPCG(6, 9))
	count := 0
	for range 1500 {
		g := api.Glass{Name: "g", Formula: api.FSellmeier, Low: api.MinWave, High: api.MaxWave}
		for k := 0; k < 6; k += 2 {
			g.Coef[k] = source.IntN(4000000000) >> source.IntN(20)
			g.Coef[k+1] = source.IntN(90000000) >> source.IntN(20)
		}
		x, y := wavelength(source), wavelength(source)
		short, e := glass.Index(g, min(x, y))
		long, f := glass.Index(g, max(x, y))
		if e != api.OK || f != api.OK {
			continue
		}
		count++
		if long > short {
			t.Errorf("%v: %d at %d and %d at %d", g, short, min(x, y), long, max(x, y))
		}
	}
	if count < 300 {
		t.Errorf("just %d pairs", count)
	}
}

// P9.4: the partial dispersion for F and C is 1, and those for x, y and for y, z add up to that for x, z.
func TestPartialDispersions(t *testing.T) {
	source := rand.New(rand.NewPCG(7, 9))
	count := 0
	for _, g := range append(someGlasses(7, 2000), glasses()...) {
		one, e := glass.Partial(g, api.LineF, api.LineC)
		if e != api.OK {
			continue
		}
		sameQuot(t, g.Name, one, e, big.NewRat(1, 1), api.OK)
		var at [3]int
		for k := range at {
			at[k] = g.Low + source.IntN(g.High-g.Low+1)
		}
		first, e := glass.Partial(g, at[0], at[1])
		second, f := glass.Partial(g, at[1], at[2])
		total, h := glass.Partial(g, at[0], at[2])
		if e != api.OK || f != api.OK || h != api.OK {
			continue
		}
		count++
		if sum, e := quot.Add(first, second); e != api.OK || !quot.Same(sum, total) {
			t.Errorf("%v at %v: %v and %v, but %v", g, at, first, second, total)
		}
	}
	if count < 200 {
		t.Errorf("just %d glasses", count)
	}
}
