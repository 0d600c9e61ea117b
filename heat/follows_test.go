package heat_test

import (
	"math/rand/v2"
	"slices"
	"testing"

	"staddle/api"
	"staddle/heat"
)

// TestNoBinHeatsPastItsMark goes by the degrees of each class that a bin can have, as long as it can be helped.
func TestNoBinHeatsPastItsMark(t *testing.T) {
	for _, make := range []func(r *rand.Rand) heat.Barn{someBarn, tightBarn} {
		trials(t, 300, make, func(r *rand.Rand, b heat.Barn) {
			n, _ := heat.Longest(b)
			if n == heat.Ever {
				start, round, e := heat.Round(b)
				all := append(copyPlan(start), slices.Repeat(round, 30/max(1, len(round))+2)...)
				if _, none := heat.First(b); e != api.OK || none != api.ErrNone || !keeps(b, all) {
					t.Error(b, "does not keep by", start, round, e, none)
				}
				return
			}
			day, e := heat.First(b)
			wall, f := heat.Wall(b)
			shows, g := heat.Shows(b, wall)
			if day != n || shows != n || e != api.OK || f != api.OK || g != api.OK {
				t.Error(b, "is kept for", n, "burns on day", day, "and its wall shows", shows, e, f, g)
			}
			if n < heat.MaxDays {
				p, e := heat.Plan(b, n)
				_, f := heat.Plan(b, n+1)
				if e != api.OK || len(p) != n || !keeps(b, p) || f != api.ErrNone {
					t.Error(b, "is kept for", n, "by", p, e, "and by one day more:", f)
				}
			}
		})
	}
}

func TestLongestIsNotLessAfterASampleNorWithAGangMore(t *testing.T) {
	samples, gangs := 0, 0
	for _, make := range []func(r *rand.Rand) heat.Barn{someBarn, tightBarn} {
		trials(t, 300, make, func(r *rand.Rand, b heat.Barn) {
			n, _ := heat.Longest(b)
			for k := range b.Bins {
				damp := b.Bins[k].Damp
				at := damp.Lo + r.IntN(damp.Hi-damp.Lo+1)
				known, e := heat.Sample(b, k, span(at, at))
				m, _ := heat.Longest(known)
				if e != api.OK || m < n {
					t.Error(b, "is kept for", n, "and with class", at, "of bin", k, "for", m, e)
				}
				if m > n {
					samples++
				}
			}
			if b.Gangs++; b.Gangs <= heat.MaxGangs {
				m, e := heat.Longest(b)
				if e != api.OK || m < n {
					t.Error(b, "is kept for", m, e, "and with a gang less for", n)
				}
				if m > n {
					gangs++
				}
			}
		})
	}
	if samples < 50 || gangs < 50 {
		t.Error("just", samples, "samples help, and", gangs, "gangs")
	}
}

func TestMoreDaysNeedNoFewerTurnings(t *testing.T) {
	trials(t, 200, tightBarn, func(r *rand.Rand, b heat.Barn) {
		longest, _ := heat.Longest(b)
		before := 0
		for days := range heat.MaxDays + 1 {
			n, e := heat.Turnings(b, days)
			if (e == api.OK) != (days <= longest) || e == api.OK && n < before {
				t.Error(b, "is kept for", longest, "and needs", before, "then", n, "turnings for", days, "days:", e)
			}
			before = n
		}
	})
}

func TestAPlanKeepsWithoutItsLastDay(t *testing.T) {
	trials(t, 500, tightBarn, func(r *rand.Rand, b heat.Barn) {
		p := somePlan(r, b, 8)
		kept := true
		for days := range len(p) + 1 {
			is, e := heat.Keeps(b, p[:days])
			if e != api.OK || is && !kept {
				t.Error(b, p[:days], "keeps:", is, e, "but not without its last day")
			}
			kept = is
		}
	})
}

// TestAfterADayThePlanGoesOn compares a plan with its two parts.
func TestAfterADayThePlanGoesOn(t *testing.T) {
	count := 0
	trials(t, 500, tightBarn, func(r *rand.Rand, b heat.Barn) {
		p := somePlan(r, b, 6)
		at := r.IntN(len(p) + 1)
		half, e := heat.After(b, p[:at])
		if e != api.OK {
			return
		}
		is, _ := heat.Keeps(b, p)
		rest, f := heat.Keeps(half, p[at:])
		if is != rest || f != api.OK {
			t.Error(b, p, "keeps:", is, "and from day", at, "on:", rest, f)
		}
		n, _ := heat.Longest(b)
		if m, g := heat.Longest(half); g != api.OK || n != heat.Ever && m+at > n {
			t.Error(b, "is kept for", n, "but after", p[:at], "for", m)
		}
		count++
	})
	if count < 100 {
		t.Error("just", count, "plans keep for some days")
	}
}
