package gate_test

import (
	"math"
	"math/rand/v2"
	"testing"

	"staddle/api"
	"staddle/gate"
)

func TestLetsOfTheExamples(t *testing.T) {
	for i, want := range [3][4]api.Span{
		{span(31, 33), span(3, 5), span(0, 2), span(2, 4)},
		{span(28, 32), span(4, 8), span(0, 4), span(0, 4)},
		{span(20, 28), span(4, 12), span(0, 4), span(4, 12)},
	} {
		for k := range gate.Kind(4) {
			if got, e := gate.Lets(mill(), wagon(0, 1, 2), i, k); got != want[k] || e != api.OK {
				t.Error("handful", i, "lets kind", k, "have", got, e, "and should let it have", want[k])
			}
		}
	}
}

func TestLetsNone(t *testing.T) {
	exact, odd := gate.Gate{}, holding(handful(0, 10, 1, 0, 0), handful(1, 200, 0, 0, 0), handful(2, 150, 25, 24, 1))
	for _, x := range []struct {
		handful int
		k       gate.Kind
		want    api.Span
		e       api.Errno
	}{
		{0, gate.Corn, span(0, 0), api.ErrNone},
		{0, gate.Chaff, span(0, 0), api.ErrNone},
		{0, gate.Stones, span(0, 0), api.OK},
		{1, gate.Corn, span(40, 40), api.OK},
		{1, gate.Damp, span(0, 0), api.OK},
		{2, gate.Corn, span(30, 30), api.OK},
		{2, gate.Chaff, span(5, 5), api.OK},
		{2, gate.Stones, span(0, 0), api.ErrNone},
	} {
		if got, e := gate.Lets(exact, odd, x.handful, x.k); got != x.want || e != x.e {
			t.Error("handful", x.handful, "lets kind", x.k, "have", got, e, "and should let it have", x.want, x.e)
		}
	}
}

func TestLetsOfWhatThereIsNot(t *testing.T) {
	for _, x := range []struct {
		handful int
		k       gate.Kind
		e       api.Errno
	}{
		{0, gate.Corn, api.OK}, {1, gate.Damp, api.OK},
		{-1, gate.Corn, api.ErrNot}, {2, gate.Corn, api.ErrNot}, {math.MinInt, gate.Corn, api.ErrNot}, {math.MaxInt, gate.Corn, api.ErrNot},
		{0, -1, api.ErrNot}, {0, 4, api.ErrNot}, {0, math.MinInt, api.ErrNot}, {0, math.MaxInt, api.ErrNot},
		{2, 4, api.ErrNot},
	} {
		if got, e := gate.Lets(mill(), wagon(0, 1), x.handful, x.k); e != x.e || e != api.OK && got != span(0, 0) {
			t.Error("handful", x.handful, "kind", x.k, "returns", got, e, "and should return", x.e)
		}
	}
	none := holding(handful(0, 10, 1, 0, 0))
	for _, x := range []struct {
		handful int
		k       gate.Kind
	}{{1, gate.Corn}, {0, 4}} {
		if _, e := gate.Lets(gate.Gate{}, none, x.handful, x.k); e != api.ErrNot {
			t.Error("handful", x.handful, "kind", x.k, "has error", e)
		}
	}
	if _, e := gate.Lets(mill(), wagon(), 0, gate.Corn); e != api.ErrNot {
		t.Error("a cart without handfuls has error", e)
	}
}

func TestLetsAgreesWithItsDefinition(t *testing.T) {
	trials(t, 300, func(r *rand.Rand, g gate.Gate, c gate.Cart) {
		for i, h := range c.Handfuls {
			for k := range 4 {
				want, e := api.Span{}, api.ErrNone
				for parts := 40; parts >= 0; parts-- {
					if letsHave(g.Miss, h, k, parts) {
						if e == api.ErrNone {
							want.Hi = parts
						}
						want.Lo, e = parts, api.OK
					}
				}
				if got, f := gate.Lets(g, c, i, gate.Kind(k)); got != want || f != e {
					t.Error(g, h, "lets kind", k, "have", got, f, "and should let it have", want, e)
				}
			}
		}
	})
}

func TestFits(t *testing.T) {
	for _, x := range []struct {
		c    gate.Cart
		m    [4]int
		want bool
	}{
		{wagon(0, 1), [4]int{32, 4, 1, 3}, true},
		{wagon(0, 1), [4]int{31, 5, 2, 2}, true},
		{wagon(0, 1), [4]int{32, 4, 0, 4}, true},
		{wagon(0, 1), [4]int{33, 4, 1, 2}, false},
		{wagon(0), [4]int{33, 4, 1, 2}, true},
		{wagon(0, 1), [4]int{30, 5, 2, 3}, false},
		{wagon(0, 1), [4]int{32, 3, 2, 3}, false},
		{wagon(0, 1), [4]int{31, 6, 1, 2}, false},
		{wagon(0, 1), [4]int{31, 4, 3, 2}, false},
		{wagon(0, 1), [4]int{32, 5, 2, 1}, false},
		{wagon(0, 1), [4]int{31, 4, 0, 5}, false},
		{wagon(1, 2), [4]int{28, 6, 2, 4}, true},
		{wagon(0, 1, 2), [4]int{31, 5, 2, 2}, false},
		{wagon(), [4]int{0, 0, 0, 40}, true},
		{wagon(), [4]int{40, 0, 0, 0}, true},
		{wagon(), [4]int{10, 10, 10, 10}, true},
	} {
		if got, e := gate.Fits(mill(), x.c, x.m); got != x.want || e != api.OK {
			t.Error("mixture", x.m, "fits", x.c, ":", got, e, "and it should be", x.want)
		}
	}
}

func TestErrorsOfAMixture(t *testing.T) {
	for _, x := range []struct {
		m    [4]int
		want api.Errno
	}{
		{[4]int{40, 0, 0, 0}, api.OK},
		{[4]int{0, 0, 40, 0}, api.OK},
		{[4]int{41, 0, 0, 0}, api.ErrRange},
		{[4]int{41, 0, 0, -1}, api.ErrRange},
		{[4]int{-1, 41, 0, 0}, api.ErrRange},
		{[4]int{-1, 21, 20, 0}, api.ErrRange},
		{[4]int{0, 20, 21, -1}, api.ErrRange},
		{[4]int{40, 40, 40, 41}, api.ErrRange},
		{[4]int{math.MinInt, math.MinInt, 40, 0}, api.ErrRange},
		{[4]int{math.MaxInt, 0, 0, 0}, api.ErrRange},
		{[4]int{39, 0, 0, 0}, api.ErrWrong},
		{[4]int{40, 0, 0, 1}, api.ErrWrong},
		{[4]int{40, 40, 40, 40}, api.ErrWrong},
		{[4]int{}, api.ErrWrong},
	} {
		is, e := gate.Fits(mill(), wagon(), x.m)
		if e != x.want || is != (e == api.OK) {
			t.Error("Fits of", x.m, "returns", is, e, "and should return error", x.want)
		}
		grade, e := gate.Has(mill(), x.m)
		if e != x.want || e != api.OK && grade != 0 {
			t.Error("Has of", x.m, "returns", grade, e, "and should return error", x.want)
		}
	}
}

func TestBoundsAndMixture(t *testing.T) {
	all := span(0, 40)
	for _, x := range []struct {
		name string
		c    gate.Cart
		want [4]api.Span
		e    api.Errno
	}{
		{"no handfuls", wagon(), [4]api.Span{all, all, all, all}, api.OK},
		{"handful 0", wagon(0), [4]api.Span{span(31, 33), span(3, 5), span(0, 2), span(2, 4)}, api.OK},
		{"handful 1", wagon(1), [4]api.Span{span(28, 32), span(4, 8), span(0, 4), span(0, 4)}, api.OK},
		{"handfuls 0 and 1", wagon(0, 1), [4]api.Span{span(31, 32), span(4, 5), span(0, 2), span(2, 4)}, api.OK},
		{"handful 1 twice", wagon(1, 1), [4]api.Span{span(28, 32), span(4, 8), span(0, 4), span(0, 4)}, api.OK},
		{"handfuls 1 and 2, of whose corn all else depends", wagon(1, 2), [4]api.Span{span(28, 28), span(4, 8), span(0, 4), span(4, 4)}, api.OK},
		{"handfuls 0 and 2", wagon(0, 2), [4]api.Span{}, api.ErrClash},
		{"all of them", wagon(0, 1, 2), [4]api.Span{}, api.ErrClash},
	} {
		got, e := gate.Bounds(mill(), x.c)
		if got != x.want || e != x.e {
			t.Error("Bounds of", x.name, "are", got, e, "and should be", x.want, x.e)
		}
		m, e := gate.Mixture(mill(), x.c)
		if e != x.e || e != api.OK && m != [4]int{} {
			t.Error("Mixture of", x.name, "is", m, e, "and its error should be", x.e)
		}
		if is, f := gate.Fits(mill(), x.c, m); e == api.OK && (!is || f != api.OK) {
			t.Error("Mixture of", x.name, "is", m, "which does not fit")
		}
	}
}

func TestMixturesThatDoNotAddUp(t *testing.T) {
	for _, x := range []struct {
		name string
		miss int
		c    gate.Cart
	}{
		{"each kind can have few parts only", 6, holding(handful(0, 14, 2, 2, 2), handful(0, 2, 14, 2, 2), handful(0, 2, 2, 14, 2))},
		{"each kind must have many parts", 0, holding(handful(0, 20, 20, 0, 0), handful(0, 0, 0, 20, 20))},
		{"a handful lets a kind have no number", 0, holding(handful(0, 10, 1, 0, 0))},
	} {
		b, e := gate.Bounds(gate.Gate{Miss: x.miss}, x.c)
		m, f := gate.Mixture(gate.Gate{Miss: x.miss}, x.c)
		if e != api.ErrClash || f != api.ErrClash || b != [4]api.Span{} || m != [4]int{} {
			t.Error(x.name, ":", b, e, m, f)
		}
	}
}

func TestMixturesAgreeWithAllThatThereAre(t *testing.T) {
	trials(t, 400, func(r *rand.Rand, g gate.Gate, c gate.Cart) {
		k := look(g, c)
		e := api.OK
		if len(k.fitting) == 0 {
			e = api.ErrClash
		}
		if b, f := gate.Bounds(g, c); b != k.bounds || f != e {
			t.Error(g, c, "has bounds", b, f, "and should have", k.bounds, e)
		}
		m, f := gate.Mixture(g, c)
		if f != e {
			t.Error(g, c, "has error", f, "and should have", e)
		}
		if is, _ := gate.Fits(g, c, m); e == api.OK && (!is || !fitsAll(g, c, m)) {
			t.Error(g, c, "has the mixture", m, "which does not fit")
		}
		for range 50 {
			m := mixtures[r.IntN(len(mixtures))]
			if is, e := gate.Fits(g, c, m); is != fitsAll(g, c, m) || e != api.OK {
				t.Error(g, c, m, "fits:", is, e)
			}
		}
	})
}

func fitsAll(g gate.Gate, c gate.Cart, m [4]int) bool {
	for _, h := range c.Handfuls {
		if !fitsHandful(g.Miss, h, m) {
			return false
		}
	}
	return true
}
