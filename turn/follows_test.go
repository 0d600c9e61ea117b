package turn_test

import (
	"math/rand/v2"
	"slices"
	"testing"

	"staddle/api"
	"staddle/turn"
)

// shown is what the rings of a barn show.
func shown(b turn.Barn) int {
	rings, _ := turn.Rings(b)
	n, _ := turn.Shows(b, rings)
	return n
}

// TestFewestAreWhatTheRingsShow asks of barns whose bins hold each lot, one of them with all bins and lots.
func TestFewestAreWhatTheRingsShow(t *testing.T) {
	rings := 0
	r := rand.New(rand.NewPCG(9, 9))
	for trial := range 500 {
		bins := 1 + r.IntN(6)
		if trial%10 == 0 {
			bins = 7
		}
		b := turn.Barn{Sizes: slices.Repeat(list(5), bins)}
		fill(r, &b, r.IntN(bins))
		if r.IntN(2) == 0 {
			b = light(bins, r.Perm(bins-1)...)
		}
		n, e := turn.Fewest(b)
		if n != shown(b) || e != api.OK {
			t.Error(b, "needs", n, "turnings", e, "and the rings show", shown(b))
		}
		if got, _ := turn.Rings(b); len(got) > 0 {
			rings++
		}
	}
	if rings < 100 {
		t.Error("just", rings, "barns have rings")
	}
}

func TestFewestAreNeverLessThanShown(t *testing.T) {
	more := 0
	trials(t, 300, func(r *rand.Rand, b turn.Barn) {
		n, e := turn.Fewest(b)
		if e == api.OK && n < shown(b) {
			t.Error(b, "needs", n, "turnings and the rings show", shown(b))
		}
		if e == api.OK && n > shown(b) {
			more++
		}
	})
	if more < 5 {
		t.Error("just", more, "barns need more turnings than the rings show")
	}
}

func TestAPlanAndThePlanBackLeadToTheSameBarn(t *testing.T) {
	trials(t, 300, func(r *rand.Rand, b turn.Barn) {
		p := somePlan(r, b, 12)
		back, e := turn.Back(b, p)
		half, f := turn.After(b, p)
		there, g := turn.After(half, back)
		again, h := turn.After(b, slices.Concat(p, back))
		if e != api.OK || f != api.OK || g != api.OK || h != api.OK || !sameBarn(there, b) || !sameBarn(again, b) {
			t.Error(p, "then", back, "makes", there, again, "of", b, e, f, g, h)
		}
		if forth, e := turn.Back(half, back); e != api.OK || !slices.Equal(forth, p) {
			t.Error("the plan back of", back, "is", forth, e, "and should be", p)
		}
	})
}

func TestNothingCanBeTurnedIfNoBinIsFree(t *testing.T) {
	is := map[bool]int{}
	r := rand.New(rand.NewPCG(7, 7))
	for range 300 {
		b := turn.Barn{Sizes: slices.Repeat(list(5), 1+r.IntN(6))}
		for bin := range b.Sizes {
			b.Lots = append(b.Lots, lot(1+r.IntN(5), bin, anywhere))
		}
		if r.IntN(2) == 0 {
			b.Lots[r.IntN(len(b.Lots))].To = r.IntN(len(b.Lots))
		}
		now, _ := turn.Makes(b, nil)
		n, e := turn.Fewest(b)
		m, f := turn.Least(b, 3)
		places, _ := turn.Places(b)
		if n != 0 || m != 0 || e != f || (e == api.OK) != now || e != api.OK && e != api.ErrClash || places != 1 {
			t.Error(b, "is right:", now, "and is made right by", n, e, m, f, "in", places, "places")
		}
		is[now]++
	}
	if is[true] < 50 || is[false] < 50 {
		t.Error("so many are right:", is)
	}
}

func TestMoreGangsNeedNoMoreRounds(t *testing.T) {
	trials(t, 300, func(r *rand.Rand, b turn.Barn) {
		n, e := turn.Fewest(b)
		before := n
		for gangs := 1; gangs <= turn.MaxGangs; gangs++ {
			m, f := turn.Least(b, gangs)
			if e != f || m > before || m*gangs < n || gangs == 1 && m != n {
				t.Error(b, "is made right by", gangs, "gangs in", m, "rounds", f, "by one less in", before, "and by", n, "turnings", e)
			}
			before = m
		}
	})
}

func TestABinMoreNeedsNoMoreTurnings(t *testing.T) {
	fewer := 0
	trials(t, 300, func(r *rand.Rand, b turn.Barn) {
		more := copyBarn(b)
		more.Sizes = append(more.Sizes, r.IntN(7))
		n, e := turn.Fewest(b)
		m, f := turn.Fewest(more)
		if e == api.OK && (f != api.OK || m > n) {
			t.Error(b, "needs", n, "turnings, and with bin", more.Sizes, m, f)
		}
		if f == api.OK && (e != api.OK || m < n) {
			fewer++
		}
	})
	if fewer < 50 {
		t.Error("just", fewer, "bins help")
	}
}

func TestALotThatCanBeAnywhereNeedsNoMoreTurnings(t *testing.T) {
	fewer := 0
	trials(t, 300, func(r *rand.Rand, b turn.Barn) {
		n, e := turn.Fewest(b)
		for k := range b.Lots {
			free, f := turn.Aim(b, k, anywhere)
			m, g := turn.Fewest(free)
			if f != api.OK || e == api.OK && (g != api.OK || m > n) {
				t.Error(b, "needs", n, "turnings, and with lot", k, "anywhere", m, f, g)
			}
			if g == api.OK && (e != api.OK || m < n) {
				fewer++
			}
		}
	})
	if fewer < 100 {
		t.Error("just", fewer, "lots help")
	}
}

func TestTheLightestPlanIsNoHeavier(t *testing.T) {
	lighter := 0
	trials(t, 500, func(r *rand.Rand, b turn.Barn) {
		p, e := turn.Plan(b)
		q, n, f := turn.Lightest(b)
		if e != f {
			t.Error(b, "has error", e, "and", f)
		}
		if e != api.OK {
			return
		}
		m, _ := turn.Sacks(b, p)
		must, _ := turn.Must(b)
		if least := sacksOf(b)(must); n > m || n < least || len(q) < len(p) {
			t.Error(b, "is made right by", p, "with", m, "sacks, by", q, "with", n, "and", least, "must be turned")
		}
		if n < m {
			lighter++
		}
	})
	if lighter < 10 {
		t.Error("just", lighter, "plans are lighter")
	}
}
