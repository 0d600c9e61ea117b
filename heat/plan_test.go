package heat_test

import (
	"math"
	"math/rand/v2"
	"testing"

	"staddle/api"
	"staddle/heat"
)

func TestTurningsOfTheExamples(t *testing.T) {
	lost := barn(1)
	lost.Gangs = 0
	for _, x := range []struct {
		name    string
		b       heat.Barn
		days, n int
		want    api.Errno
	}{
		{"no days", barn(2), 0, 0, api.OK},
		{"example 2, for two days", barn(2), 2, 0, api.OK},
		{"example 2, for three days", barn(2), 3, 2, api.OK},
		{"example 2, for four days", barn(2), 4, 2, api.OK},
		{"example 3, for one day", barn(3), 1, 0, api.OK},
		{"example 3, for two days", barn(3), 2, 1, api.OK},
		{"example 3, for three days", barn(3), 3, 3, api.OK},
		{"example 3, for four days", barn(3), 4, 0, api.ErrNone},
		{"a bin that never gets warmer", cold(), 20, 0, api.OK},
		{"no gangs, for two days", lost, 2, 0, api.OK},
		{"no gangs, for three days", lost, 3, 0, api.ErrNone},
		{"20 days", steady(1, 10), 20, 1, api.OK},
		{"20 days of four bins, one after the other", steady(1, 10, 10, 10, 10), 20, 7, api.OK},
		{"20 days of four bins, three at once", steady(3, 10, 10, 10, 10), 20, 5, api.OK},
		{"20 days of two bins at once", steady(2, 5, 5), 20, 6, api.OK},
		{"21 days", barn(2), 21, 0, api.ErrRange},
		{"-1 days", barn(2), -1, 0, api.ErrRange},
		{"the most days of all", barn(3), math.MaxInt, 0, api.ErrRange},
		{"the fewest days of all", barn(3), math.MinInt, 0, api.ErrRange},
	} {
		n, e := heat.Turnings(x.b, x.days)
		p, f := heat.Plan(x.b, x.days)
		if n != x.n || e != x.want || f != x.want {
			t.Error(x.name, "needs", n, e, "by", p, f, "and should need", x.n, x.want)
		}
		if e == api.OK && !fits(x.b, p, x.days, n) || e != api.OK && p != nil {
			t.Error(x.name, "has plan", p, f)
		}
	}
}

// fits says whether a plan is allowed, keeps, and has so many days and turnings.
func fits(b heat.Barn, p [][]int, days, n int) bool {
	is, e := heat.Keeps(b, p)
	return is && e == api.OK && keeps(b, p) && len(p) == days && turnings(p) == n
}

func TestTurningsOfAnyBarns(t *testing.T) {
	count := map[int]int{}
	searched(t, func(r *rand.Rand, b heat.Barn, k known) {
		days := r.IntN(heat.MaxDays + 1)
		want := api.OK
		if k.turnings[days] < 0 {
			want = api.ErrNone
		}
		n, e := heat.Turnings(b, days)
		p, f := heat.Plan(b, days)
		if n != max(0, k.turnings[days]) || e != want || f != want {
			t.Error(b, days, "needs", n, e, f, "and should need", k.turnings[days])
		}
		if e == api.OK && !fits(b, p, days, n) {
			t.Error(b, days, "has plan", p, "with", n)
		}
		count[min(8, k.turnings[days])]++
	})
	for n := -1; n <= 8; n++ {
		if count[n] < 8 {
			t.Error("too few plans have so many turnings:", count)
		}
	}
}

// TestTurningsOfAllPlans goes through all plans of a few days.
func TestTurningsOfAllPlans(t *testing.T) {
	none := 0
	trials(t, 300, tightBarn, func(r *rand.Rand, b heat.Barn) {
		b.Bins = b.Bins[:min(3, len(b.Bins))]
		const days = 4
		all := lists(len(b.Bins), b.Gangs)
		best := -1
		var try func(p [][]int)
		try = func(p [][]int) {
			if !keeps(b, p) {
				return
			}
			if n := turnings(p); len(p) == days && (best < 0 || n < best) {
				best = n
			}
			for _, list := range all {
				if len(p) < days {
					try(append(p, list))
				}
			}
		}
		try(make([][]int, 0, days))
		n, e := heat.Turnings(b, days)
		if n != max(0, best) || e != api.OK && e != api.ErrNone || (e == api.OK) != (best >= 0) {
			t.Error(b, "needs", n, e, "and should need", best)
		}
		if best < 0 {
			none++
		}
	})
	if none < 20 || none > 280 {
		t.Error("no plan keeps for", none, "barns")
	}
}
