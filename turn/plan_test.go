package turn_test

import (
	"math"
	"math/rand/v2"
	"slices"
	"testing"

	"staddle/api"
	"staddle/turn"
)

// done says what a plan does, turning by turning: where the lots are then, the plan back, the sacks, or the error.
func done(b turn.Barn, p []turn.Turning) (bins []int, back []turn.Turning, sacks int, e api.Errno) {
	if len(p) > turn.MaxPlan {
		return nil, nil, 0, api.ErrMany
	}
	bins = in(b)
	for _, x := range p {
		switch {
		case x.Lot < 0 || x.Lot >= len(b.Lots) || x.To < 0 || x.To >= len(b.Sizes):
			return nil, nil, 0, api.ErrNot
		case slices.Contains(bins, x.To):
			return nil, nil, 0, api.ErrTwice
		case b.Sizes[x.To] < b.Lots[x.Lot].Sacks:
			return nil, nil, 0, api.ErrFull
		}
		back = slices.Insert(back, 0, to(x.Lot, bins[x.Lot]))
		bins[x.Lot] = x.To
		sacks += b.Lots[x.Lot].Sacks
	}
	return bins, back, sacks, api.OK
}

// askPlan compares all that is said of a plan.
func askPlan(t *testing.T, b turn.Barn, p []turn.Turning, bins []int, makes bool, back []turn.Turning, sacks int, want api.Errno) {
	t.Helper()
	after := turn.Barn{}
	if want == api.OK {
		after = copyBarn(b)
		for k, bin := range bins {
			after.Lots[k].In = bin
		}
	}
	if got, e := turn.After(b, p); !sameBarn(got, after) || e != want {
		t.Error("after", p, b, "is", got, e, "and should be", after, want)
	}
	if got, e := turn.Makes(b, p); got != makes || e != want {
		t.Error(p, "makes", b, "right:", got, e, "and should:", makes, want)
	}
	if got, e := turn.Back(b, p); !slices.Equal(got, back) || e != want {
		t.Error("the plan back of", p, "in", b, "is", got, e, "and should be", back, want)
	}
	if got, e := turn.Sacks(b, p); got != sacks || e != want {
		t.Error(p, "moves", got, "sacks of", b, e, "and should move", sacks, want)
	}
}

func TestPlansOfTheExamples(t *testing.T) {
	b := three(50)
	askPlan(t, b, plan(to(1, 3), to(0, 1), to(1, 0)), list(1, 0, 2), true, plan(to(1, 3), to(0, 0), to(1, 1)), 70, api.OK)
	askPlan(t, b, plan(to(0, 3), to(1, 0), to(0, 1)), list(1, 0, 2), true, plan(to(0, 3), to(1, 1), to(0, 0)), 80, api.OK)
	askPlan(t, b, plan(to(1, 3), to(0, 1)), list(1, 3, 2), false, plan(to(0, 0), to(1, 1)), 50, api.OK)
	askPlan(t, b, nil, list(0, 1, 2), false, nil, 0, api.OK)
	askPlan(t, b, plan(to(2, 3), to(2, 2)), list(0, 1, 2), false, plan(to(2, 3), to(2, 2)), 80, api.OK)
	askPlan(t, three(25), plan(to(1, 3), to(0, 1), to(1, 0)), list(1, 0, 2), true, plan(to(1, 3), to(0, 0), to(1, 1)), 70, api.OK)
	askPlan(t, light(2, 0), nil, list(0), true, nil, 0, api.OK)
	askPlan(t, light(2, anywhere), plan(to(0, 1)), list(1), true, plan(to(0, 0)), 1, api.OK)
	askPlan(t, light(2), nil, nil, true, nil, 0, api.OK)
}

func TestErrorsOfPlans(t *testing.T) {
	for _, x := range []struct {
		b    turn.Barn
		p    []turn.Turning
		want api.Errno
	}{
		{three(50), plan(to(3, 3)), api.ErrNot}, {three(50), plan(to(-1, 3)), api.ErrNot}, {three(50), plan(to(0, 4)), api.ErrNot}, {three(50), plan(to(0, anywhere)), api.ErrNot},
		{three(50), plan(to(3, 1)), api.ErrNot}, {three(50), plan(to(math.MinInt, math.MaxInt)), api.ErrNot},
		{three(50), plan(to(0, 1)), api.ErrTwice}, {three(50), plan(to(0, 0)), api.ErrTwice}, {three(50), plan(to(0, 3), to(0, 3)), api.ErrTwice},
		{three(50), plan(to(0, 3), to(1, 3)), api.ErrTwice}, {three(50), plan(to(0, 3), to(1, 0), to(2, 1), to(0, 2), to(1, 3)), api.OK},
		{three(25), plan(to(0, 3)), api.ErrFull}, {three(29), plan(to(0, 3)), api.ErrFull}, {three(30), plan(to(0, 3)), api.OK},
		{turn.Barn{Sizes: list(9, 5, 5), Lots: []turn.Lot{lot(9, 0, 0), lot(5, 1, 1)}}, plan(to(0, 1)), api.ErrTwice},
		{three(25), plan(to(1, 3), to(0, 1), to(0, 3)), api.ErrTwice},
		{three(25), plan(to(0, 3), to(9, 9)), api.ErrFull}, {three(25), plan(to(1, 1), to(9, 9), to(0, 3)), api.ErrTwice}, {three(25), plan(to(9, 9), to(1, 1), to(0, 3)), api.ErrNot},
		{three(25), plan(to(1, 3), to(0, 3), to(0, 1), to(1, 9)), api.ErrTwice}, {three(25), plan(to(1, 3), to(0, 1), to(1, 0), to(0, 3), to(1, 9)), api.ErrFull},
		{three(50), slices.Repeat(plan(to(9, 9)), 6001), api.ErrMany}, {three(50), slices.Repeat(plan(to(9, 9)), 6000), api.ErrNot},
		{three(50), slices.Repeat(plan(to(0, 3), to(0, 0)), 3000), api.OK}, {three(50), append(slices.Repeat(plan(to(0, 3), to(0, 0)), 3000), to(1, 3)), api.ErrMany},
		{three(50), append(slices.Repeat(plan(to(0, 3), to(0, 0)), 2999), to(0, 3), to(0, 3)), api.ErrTwice},
		{turn.Barn{Sizes: list(5)}, plan(to(0, 0)), api.ErrNot},
	} {
		bins, back, sacks, e := done(x.b, x.p)
		if e != x.want {
			t.Error("the test thinks of", x.p, "in", x.b, "that it has error", e, "and not", x.want)
		}
		askPlan(t, x.b, x.p, bins, e == api.OK && right(x.b, bins), back, sacks, x.want)
	}
}

// TestPlansTurningByTurning spoils some of the plans.
func TestPlansTurningByTurning(t *testing.T) {
	errors := map[api.Errno]int{}
	makes := 0
	trials(t, 1000, func(r *rand.Rand, b turn.Barn) {
		p := somePlan(r, b, 12)
		if r.IntN(3) == 0 {
			p, _ = turn.Plan(b)
		}
		for range r.IntN(3) {
			p = slices.Insert(p, r.IntN(len(p)+1), to(r.IntN(len(b.Lots)+3)-1, r.IntN(len(b.Sizes)+2)-1))
		}
		bins, back, sacks, e := done(b, p)
		is := e == api.OK && right(b, bins)
		askPlan(t, b, p, bins, is, back, sacks, e)
		errors[e]++
		if is {
			makes++
		}
	})
	if errors[api.OK] < 200 || errors[api.ErrNot] < 200 || errors[api.ErrTwice] < 200 || errors[api.ErrFull] < 50 || makes < 200 {
		t.Error("the errors are", errors, "and", makes, "barns are made right")
	}
}
