package heat_test

import (
	"math/rand/v2"
	"slices"
	"testing"

	"staddle/api"
	"staddle/heat"
)

func TestWarmthOfTheExamples(t *testing.T) {
	warmer := barn(1)
	warmer.Cool = 45
	for _, x := range []struct {
		name string
		b    heat.Barn
		plan [][]int
		bin  int
		want []api.Span
	}{
		{"example 1", barn(2), plan(nil, nil, nil), 0, []api.Span{span(28, 30), span(36, 40), span(44, 50)}},
		{"example 2, bin 0", barn(2), plan(nil, nil, day(0)), 0, []api.Span{span(28, 30), span(36, 40), span(28, 30)}},
		{"example 2, bin 1", barn(2), plan(nil, nil, day(0)), 1, []api.Span{span(36, 38), span(42, 46), span(48, 54)}},
		{"a plan that keeps", barn(2), plan(nil, day(0), day(1)), 1, []api.Span{span(36, 38), span(42, 46), span(26, 28)}},
		{"no days", barn(2), nil, 1, nil},
		{"a bin that is not warmer than Cool", barn(2), plan(day(0)), 0, []api.Span{span(28, 30)}},
		{"Cool above the mark", warmer, plan(nil, nil, day(0), day(0)), 0, []api.Span{span(28, 30), span(36, 40), span(44, 50), span(52, 55)}},
		{"a bin that never gets warmer", cold(), plan(nil, nil), 0, []api.Span{span(3, 3), span(3, 3)}},
		{"a bin that was warm to its mark", only(bin(40, 40, 3, 4)), plan(day(0)), 0, []api.Span{span(28, 30)}},
	} {
		if got, e := heat.Warmth(x.b, x.plan, x.bin); !slices.Equal(got, x.want) || e != api.OK {
			t.Error(x.name, "has", got, e, "and should have", x.want)
		}
	}
}

func TestWarmthDays(t *testing.T) {
	if got, e := heat.Warmth(barn(2), make([][]int, 20), 0); len(got) != 20 || got[19] != span(180, 220) || e != api.OK {
		t.Error("after 20 days it has", got, e)
	}
	for _, x := range []struct {
		name string
		plan [][]int
		bin  int
		want api.Errno
	}{
		{"21 days", make([][]int, 21), 0, api.ErrMany},
		{"21 days, and no such bin", make([][]int, 21), 2, api.ErrMany},
		{"20000 days", make([][]int, 20000), 0, api.ErrMany},
		{"20001 days", make([][]int, 20001), 0, api.ErrMany},
		{"21 days, on the last of which a bin is turned that there is not", append(make([][]int, 20), day(2)), 2, api.ErrNot},
		{"21 days, on the last of which a list is not in order", append(make([][]int, 20), day(1, 0)), 2, api.ErrOrder},
		{"21 days, on the last of which too much is turned", append(make([][]int, 20), day(0, 1)), 2, api.ErrFull},
		{"no days, and no such bin", nil, 2, api.ErrNot},
	} {
		if got, e := heat.Warmth(barn(2), x.plan, x.bin); got != nil || e != x.want {
			t.Error(x.name, "has", got, e, "and should have", x.want)
		}
	}
}

func TestPlansOfTheExamples(t *testing.T) {
	after := func(b heat.Barn, warm ...int) heat.Barn {
		b = copyBarn(b)
		for k, n := range warm {
			b.Bins[k].Warm = n
		}
		return b
	}
	both := barn(2)
	both.Gangs = 2
	tied := only(bin(20, 30, 4, 4))
	tied.Bins = append(tied.Bins, tied.Bins[0])
	for _, x := range []struct {
		name     string
		b        heat.Barn
		plan     [][]int
		day, bin int
		after    heat.Barn
	}{
		{"no days", barn(2), nil, 0, 0, barn(2)},
		{"nothing is turned for two days", barn(2), plan(nil, nil), 0, 0, after(barn(2), 40, 46)},
		{"nothing is turned for three days", barn(2), plan(nil, nil, nil), 2, 0, heat.Barn{}},
		{"example 2", barn(2), plan(nil, nil, day(0)), 2, 1, heat.Barn{}},
		{"example 2, a plan that keeps", barn(2), plan(nil, day(0), day(1)), 0, 0, after(barn(2), 40, 28)},
		{"both are turned", both, plan(nil, nil, day(0, 1)), 0, 0, after(both, 30, 28)},
		{"example 3", barn(3), plan(day(1), day(2), day(0), nil), 3, 1, heat.Barn{}},
		{"example 3, for three days", barn(3), plan(day(1), day(2), day(0)), 0, 0, after(barn(3), 30, 44, 40)},
		{"two bins burn on one day", tied, plan(nil, nil, nil), 1, 0, heat.Barn{}},
		{"the second one burns first", tied, plan(nil, day(0), nil), 1, 1, heat.Barn{}},
		{"a bin burns before it is turned", barn(1), plan(nil, nil, nil, day(0)), 2, 0, heat.Barn{}},
		{"a bin that never gets warmer", cold(), make([][]int, 20000), 0, 0, cold()},
	} {
		want, wrong := api.OK, api.ErrNone
		if x.after.Bins == nil {
			want, wrong = api.ErrWrong, api.OK
		}
		is, e := heat.Keeps(x.b, x.plan)
		day, bin, f := heat.Burns(x.b, x.plan)
		got, g := heat.After(x.b, x.plan)
		if is != (want == api.OK) || e != api.OK || day != x.day || bin != x.bin || f != wrong || !sameBarn(got, x.after) || g != want {
			t.Error(x.name, "keeps:", is, e, "burns on day", day, "in bin", bin, f, "and leaves", got, g)
		}
	}
}

func TestPlansOfAnyBarns(t *testing.T) {
	kept, burnt := 0, 0
	for _, make := range []func(r *rand.Rand) heat.Barn{someBarn, tightBarn} {
		trials(t, 1000, make, func(r *rand.Rand, b heat.Barn) {
			p := somePlan(r, b, 10)
			day, bin, burns := burning(b, p)
			is, e := heat.Keeps(b, p)
			d, k, f := heat.Burns(b, p)
			after, g := heat.After(b, p)
			if is == burns || e != api.OK || d != day || k != bin || (f == api.OK) != burns || (g == api.OK) == burns {
				t.Error(b, p, "keeps:", is, e, "burns on day", d, "in bin", k, f, g, "and should on", day, bin)
			}
			want := heat.Barn{}
			if !burns {
				want = copyBarn(b)
			}
			for k := range b.Bins {
				all := warmths(b, p, k)
				if got, e := heat.Warmth(b, p, k); !slices.Equal(got, all) || e != api.OK {
					t.Error(b, p, k, "has", got, e, "and should have", all)
				}
				if !burns && len(all) > 0 {
					want.Bins[k].Warm = all[len(all)-1].Hi
				}
			}
			if !sameBarn(after, want) {
				t.Error(b, p, "leaves", after, "and should leave", want)
			}
			if burns {
				burnt++
			} else {
				kept++
			}
		})
	}
	if kept < 200 || burnt < 200 {
		t.Error("just", kept, "plans keep, and", burnt, "do not")
	}
}

// TestErrorsOfPlans asks of plans with errors, each function that takes one.
func TestErrorsOfPlans(t *testing.T) {
	idle := barn(2)
	idle.Gangs = 0
	for _, x := range []struct {
		name string
		b    heat.Barn
		plan [][]int
		want api.Errno
	}{
		{"20000 days", barn(2), make([][]int, 20000), api.OK},
		{"20001 days", barn(2), make([][]int, 20001), api.ErrMany},
		{"20001 days, the first one with a bin that there is not", barn(2), append(plan(day(2)), make([][]int, 20000)...), api.ErrMany},
		{"a bin too many", barn(2), plan(day(2)), api.ErrNot},
		{"a bin before the first", barn(2), plan(day(-1)), api.ErrNot},
		{"a bin that there is not, out of order, and too many", barn(2), plan(day(1, 0, 2)), api.ErrNot},
		{"out of order, and too many", barn(2), plan(day(1, 0)), api.ErrOrder},
		{"a bin twice", barn(2), plan(day(0, 0)), api.ErrOrder},
		{"too many", barn(2), plan(day(0, 1)), api.ErrFull},
		{"none could be turned", idle, plan(day(0)), api.ErrFull},
		{"none is turned", idle, plan(nil, day()), api.OK},
		{"as many as can be", barn(2), plan(day(1), day(0)), api.OK},
		{"too many on day 1, a bin that there is not on day 2", barn(2), plan(day(0), day(0, 1), day(2)), api.ErrFull},
		{"out of order on day 0, a bin that there is not on day 1", barn(2), plan(day(1, 0), day(2)), api.ErrOrder},
		{"a bin that there is not on day 0, too many on day 1", barn(2), plan(day(2), day(0, 1)), api.ErrNot},
		{"too many on day 3, after a bin burnt", barn(1), plan(nil, nil, nil, day(0, 0)), api.ErrOrder},
	} {
		w, e := heat.Warmth(x.b, x.plan, 0)
		is, f := heat.Keeps(x.b, x.plan)
		d, k, g := heat.Burns(x.b, x.plan)
		after, h := heat.After(x.b, x.plan)
		goes, i := heat.Goes(x.b, x.plan, plan(nil))
		again, j := heat.Goes(x.b, plan(nil), x.plan)
		if x.want == api.OK {
			if f != api.OK || g != api.OK && g != api.ErrNone || h != api.OK && h != api.ErrWrong || i != api.OK || j != api.OK {
				t.Error(x.name, "has errors", f, g, h, i, j)
			}
			continue
		}
		if w != nil || is || d != 0 || k != 0 || !sameBarn(after, heat.Barn{}) || goes || again {
			t.Error(x.name, "has", w, is, d, k, after, goes, again)
		}
		if n := x.want; e != n || f != n || g != n || h != n || i != n || j != n {
			t.Error(x.name, "has errors", e, f, g, h, i, j, "and should have", n)
		}
	}
}
