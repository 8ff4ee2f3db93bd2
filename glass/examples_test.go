package glass_test

import (
	"math/big"
	"testing"

	"monocle/api"
	"monocle/glass"
)

// The chapter's examples of squares and indices (P9.1, P9.2).
func TestExamplesOfIndices(t *testing.T) {
	for _, x := range []struct {
		g      api.Glass
		length int
		square *big.Rat
		index  int
	}{
		{glassA(), 550000, big.NewRat(2, 1), 14142136},
		{glassB(), 500000, big.NewRat(5929, 2500), 15400000},
		{glassC(), 500000, big.NewRat(49, 24), 14288690},
	} {
		s, e := glass.Square(x.g, x.length)
		sameQuot(t, "Square of "+x.g.Name, s, e, x.square, api.OK)
		sameIndex(t, x.g, x.length, x.index, api.OK)
	}
}

// The chapter's other examples (P9.1 to P9.3).
func TestExamples(t *testing.T) {
	sameIndex(t, glassA(), 399999, 0, api.ErrArg)
	a, e := glass.Abbe(glassA())
	sameQuot(t, "Abbe of A", a, e, nil, api.ErrZero)
	b := glassB()
	b.Coef[0] = 500000000
	sameIndex(t, b, 500000, 0, api.ErrBig)
	wrong := glassA()
	wrong.Coef[1] = 160000000
	if e := glass.Check(wrong); e != api.ErrGlass {
		t.Errorf("Check: error %d", e)
	}
	p, e := glass.Partial(glassB(), 486133, 656273)
	sameQuot(t, "Partial of B", p, e, big.NewRat(1, 1), api.OK)
}

// A crown glass, with the index and the Abbe number that are known of it: 1.5168 and 64.17 (P9.2, P9.3).
func TestCrown(t *testing.T) {
	g := crown()
	n, e := glass.Index(g, api.LineD)
	if n < 15167995 || n > 15168005 || e != api.OK {
		t.Errorf("index %d, error %d", n, e)
	}
	want, _ := abbeOf(g)
	if want.Cmp(big.NewRat(6415, 100)) < 0 || want.Cmp(big.NewRat(6419, 100)) > 0 {
		t.Errorf("Abbe number %s", want.FloatString(3))
	}
	a, e := glass.Abbe(g)
	sameQuot(t, "Abbe", a, e, want, api.OK)
}
