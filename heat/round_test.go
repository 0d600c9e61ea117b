package heat_test

import (
	"math/rand/v2"
	"slices"
	"testing"

	"staddle/api"
	"staddle/heat"
)

// isRound says whether two plans are such as Round is to return, by the words of the chapter.
func isRound(b heat.Barn, start, round [][]int) bool {
	all := append(slices.Clone(start), round...)
	_, e := heat.Keeps(b, all)
	return e == api.OK && len(all) <= heat.MaxWall && len(round) > 0 && goesOn(b, start, round)
}

func TestRoundOfTheExamples(t *testing.T) {
	for _, x := range []struct {
		name string
		b    heat.Barn
		want api.Errno
	}{
		{"example 2", barn(2), api.OK},
		{"example 3", barn(3), api.ErrNone},
		{"a bin that never gets warmer", cold(), api.OK},
		{"one that never gets warmer, and one that does", mixed(), api.ErrNone},
		{"by turns of four", steady(1, 4, 4, 4, 4), api.OK},
		{"as long as can be", steady(1, 10, 10, 10, 10), api.OK},
		{"each of three bins on every day", steady(3, 1, 1, 1), api.OK},
		{"one bin lasts for no day", steady(3, 0, 1), api.ErrNone},
	} {
		start, round, e := heat.Round(x.b)
		if e != x.want || e == api.OK && !isRound(x.b, start, round) || e != api.OK && (start != nil || round != nil) {
			t.Error(x.name, "has", start, round, e, "and should have", x.want)
		}
		if is, f := heat.Goes(x.b, start, round); e == api.OK && (!is || f != api.OK) {
			t.Error(x.name, "has", start, round, "which goes:", is, f)
		}
	}
}

func TestRoundOfAnyBarns(t *testing.T) {
	rounds, starts := 0, 0
	searched(t, func(r *rand.Rand, b heat.Barn, k known) {
		start, round, e := heat.Round(b)
		if (e == api.OK) != (k.longest == heat.Ever) || e != api.OK && e != api.ErrNone {
			t.Error(b, "is kept for", k.longest, "and has round", round, e)
		}
		if e != api.OK {
			return
		}
		if is, f := heat.Goes(b, start, round); !is || f != api.OK || !isRound(b, start, round) {
			t.Error(b, "has", start, round, "which goes:", is, f)
		}
		rounds++
		if len(start) > 0 {
			starts++
		}
	})
	if rounds < 200 || starts < 20 {
		t.Error("just", rounds, "barns have a round,", starts, "of them with a start")
	}
}

func TestGoesOfTheExamples(t *testing.T) {
	warm := barn(1)
	warm.Cool = 40
	for _, x := range []struct {
		name         string
		b            heat.Barn
		start, round [][]int
		is           bool
		want         api.Errno
	}{
		{"example 2", barn(2), nil, plan(day(0), day(1)), true, api.OK},
		{"after a day", barn(2), plan(nil), plan(day(0), day(1)), true, api.OK},
		{"after a day of the round", barn(2), plan(day(0)), plan(day(1), day(0)), true, api.OK},
		{"after a start that is too long", barn(2), plan(nil, nil), plan(day(0), day(1)), false, api.OK},
		{"after a start that does not keep", barn(2), plan(nil, nil, nil), plan(day(0), day(1)), false, api.OK},
		{"once more, but not twice", barn(2), nil, plan(day(0), day(1), nil), false, api.OK},
		{"a bin turned in vain", barn(2), nil, plan(day(1), day(0), day(0)), true, api.OK},
		{"a bin that is never turned", barn(2), nil, plan(day(0)), false, api.OK},
		{"nothing is turned", barn(2), nil, plan(nil), false, api.OK},
		{"nothing need be turned", cold(), plan(nil, nil), plan(nil), true, api.OK},
		{"the bins need not begin in the state to which they come", steady(1, 10, 2), nil, plan(day(0), day(1)), true, api.OK},
		{"turning does not help", warm, nil, plan(day(0)), false, api.OK},
		{"20000 days, and as many", cold(), make([][]int, 20000), make([][]int, 20000), true, api.OK},
		{"no round", barn(2), plan(day(0)), nil, false, api.ErrNone},
		{"no round, after a start that does not keep", barn(2), plan(nil, nil, nil), plan(), false, api.ErrNone},
		{"no round, after a wrong start", barn(2), plan(day(2)), nil, false, api.ErrNot},
		{"a wrong round", barn(2), nil, plan(day(0), day(1, 1)), false, api.ErrOrder},
		{"a round with too many", barn(2), nil, plan(day(0, 1)), false, api.ErrFull},
		{"a wrong round, after a start that does not keep", barn(2), plan(nil, nil, nil), plan(day(3)), false, api.ErrNot},
		{"both are wrong", barn(2), plan(day(0, 1)), plan(day(3)), false, api.ErrFull},
		{"a long start, and a wrong round", barn(2), make([][]int, 20001), plan(day(3)), false, api.ErrMany},
		{"a wrong start, and a long round", barn(2), plan(day(3)), make([][]int, 20001), false, api.ErrNot},
		{"a long round", barn(2), plan(day(0)), make([][]int, 20001), false, api.ErrMany},
	} {
		if is, e := heat.Goes(x.b, x.start, x.round); is != x.is || e != x.want {
			t.Error(x.name, "goes:", is, e, "and should:", x.is, x.want)
		}
	}
}

func TestGoesOfAnyPlans(t *testing.T) {
	count := map[bool]int{}
	for _, make := range []func(r *rand.Rand) heat.Barn{someBarn, tightBarn} {
		trials(t, 500, make, func(r *rand.Rand, b heat.Barn) {
			start, round, e := heat.Round(b)
			if e != api.OK {
				start, round = nil, nil
			}
			for range 6 {
				one, other := changedPlan(r, b, start), changedPlan(r, b, round)
				if len(other) == 0 {
					continue
				}
				want := goesOn(b, one, other)
				if is, e := heat.Goes(b, one, other); is != want || e != api.OK {
					t.Error(b, one, other, "goes:", is, e, "and should:", want)
				}
				count[want]++
			}
		})
	}
	if count[true] < 300 || count[false] < 300 {
		t.Error("too few rounds go, or do not:", count)
	}
}

// changedPlan returns a plan with a day more or less, or with another list on a day.
func changedPlan(r *rand.Rand, b heat.Barn, p [][]int) [][]int {
	all := lists(len(b.Bins), b.Gangs)
	list := all[r.IntN(len(all))]
	p = slices.Clone(p)
	at := r.IntN(len(p) + 1)
	switch {
	case r.IntN(4) == 0:
		return slices.Insert(p, at, list)
	case at == len(p):
		return p
	case r.IntN(3) == 0:
		return slices.Delete(p, at, at+1)
	case r.IntN(2) == 0:
		p[at] = list
	}
	return p
}
