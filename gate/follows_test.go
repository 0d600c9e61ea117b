package gate_test

import (
	"math/rand/v2"
	"slices"
	"testing"

	"staddle/api"
	"staddle/gate"
)

func wider(a, b api.Span) bool { return a.Lo <= b.Lo && a.Hi >= b.Hi }

// TestBothEndsAreHadAndGradesAreShown looks for a mixture with each end of the bounds, and of each grade.
func TestBothEndsAreHadAndGradesAreShown(t *testing.T) {
	trials(t, 200, func(r *rand.Rand, g gate.Gate, c gate.Cart) {
		bounds, e := gate.Bounds(g, c)
		if e != api.OK {
			return
		}
		ends := map[[3]int]bool{}
		sure, f := gate.Sure(g, c)
		for _, m := range look(g, c).fitting {
			for kind, parts := range m {
				if !wider(bounds[kind], span(parts, parts)) {
					t.Error(g, c, m, "fits, but is beyond", bounds)
				}
				ends[[3]int{kind, parts}] = true
			}
			if has, _ := gate.Has(g, m); f == api.OK && has != sure {
				t.Error(g, c, "has grade", sure, "for certain, but", m, "fits and has", has)
			}
		}
		for kind, b := range bounds {
			if !ends[[3]int{kind, b.Lo}] || !ends[[3]int{kind, b.Hi}] {
				t.Error(g, c, "has an end of", bounds, "that no mixture has")
			}
		}
		can, _ := gate.Can(g, c)
		for _, grade := range can {
			m, e := gate.Show(g, c, grade)
			if has, _ := gate.Has(g, m); e != api.OK || has != grade {
				t.Error(g, c, "can have", grade, "which is shown by", m, e)
			}
		}
	})
}

func TestOneHandfulMoreNeverWidens(t *testing.T) {
	trials(t, 500, func(r *rand.Rand, g gate.Gate, c gate.Cart) {
		more, e := gate.Take(c, someHandful(r, mixtures[r.IntN(len(mixtures))]))
		if e != api.OK {
			return
		}
		before, e := gate.Bounds(g, c)
		after, f := gate.Bounds(g, more)
		if e == api.ErrClash && f != api.ErrClash {
			t.Error(g, c, "clashes no more with", more)
		}
		if f != api.OK {
			return
		}
		for kind := range before {
			if !wider(before[kind], after[kind]) {
				t.Error(g, c, "has bounds", before, "and", after, "with", more)
			}
		}
		could, _ := gate.Can(g, c)
		can, _ := gate.Can(g, more)
		for _, grade := range can {
			if !slices.Contains(could, grade) {
				t.Error(g, c, "can have", could, "but with", more, can)
			}
		}
	})
}

func TestAClashNeedsAllItsHandfuls(t *testing.T) {
	trials(t, 500, func(r *rand.Rand, g gate.Gate, c gate.Cart) {
		clash, e := gate.Clash(g, c)
		if e == api.ErrNone {
			return
		}
		if is, _ := gate.Agree(g, c, clash); is || len(clash) > 4 || !slices.IsSorted(clash) {
			t.Error(g, c, "has no clash in", clash)
		}
		for i := range clash {
			others := slices.Delete(slices.Clone(clash), i, i+1)
			if is, e := gate.Agree(g, c, others); !is || e != api.OK {
				t.Error(g, c, "clashes in", clash, "but in", others, "too")
			}
		}
	})
}

func TestAGreaterMissNeverNarrows(t *testing.T) {
	trials(t, 400, func(r *rand.Rand, g gate.Gate, c gate.Cart) {
		if g.Miss == gate.MaxMiss {
			return
		}
		loose := g
		loose.Miss++
		narrow, e := gate.Bounds(g, c)
		wide, f := gate.Bounds(loose, c)
		if e == api.OK && f != api.OK {
			t.Error(g, c, "agrees, but clashes with a greater Miss")
		}
		for kind := range narrow {
			if e == api.OK && !wider(wide[kind], narrow[kind]) {
				t.Error(g, c, "has bounds", narrow, "and", wide, "with a greater Miss")
			}
		}
		list := r.Perm(len(c.Handfuls))[:r.IntN(len(c.Handfuls)+1)]
		was, _ := gate.Agree(g, c, list)
		is, _ := gate.Agree(loose, c, list)
		if was && !is {
			t.Error(g, c, list, "agree, but clash with a greater Miss")
		}
	})
}

func TestAHandfulTwiceChangesNothing(t *testing.T) {
	trials(t, 300, func(r *rand.Rand, g gate.Gate, c gate.Cart) {
		n := len(c.Handfuls)
		if n == 0 || n == gate.MaxHandfuls {
			return
		}
		again, e := gate.Take(c, c.Handfuls[r.IntN(n)])
		if e != api.OK {
			t.Fatal(e)
		}
		a, e := gate.Bounds(g, c)
		b, f := gate.Bounds(g, again)
		can, _ := gate.Can(g, c)
		same, _ := gate.Can(g, again)
		top, _ := gate.Topped(g, c)
		topped, _ := gate.Topped(g, again)
		if a != b || e != f || !slices.Equal(can, same) || top != topped {
			t.Error(g, c, "has", a, e, can, top, "and with a handful twice", b, f, same, topped)
		}
	})
}

func TestLeastWeightsAddUpToNoMoreThanTheCart(t *testing.T) {
	trials(t, 300, func(r *rand.Rand, g gate.Gate, c gate.Cart) {
		net, _ := gate.Net(g, c)
		least := 0
		for k := range gate.Kind(4) {
			w, e := gate.Weight(g, c, k)
			if e != api.OK {
				return
			}
			least += w.Lo
		}
		if least > net.Hi {
			t.Error(g, c, "has least weights of", least, "in all, and weighs no more than", net.Hi)
		}
	})
}
