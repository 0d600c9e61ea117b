package weevil_test

import (
	"math/rand/v2"
	"slices"
	"testing"

	"staddle/api"
	"staddle/weevil"
)

// checkSaved asks all that there is about plans that save bins, of which the best one closes so many gaps, or far if there is
// none.
func checkSaved(t *testing.T, h weevil.House, from, keep []int, speed, want int) {
	t.Helper()
	plan, e := weevil.Save(h, from, keep, speed)
	n, f := weevil.Fewest(h, from, keep, speed)
	if want == far {
		if len(plan) != 0 || e != api.ErrNone || n != 0 || f != api.ErrNone {
			t.Error(h, from, keep, speed, "cannot be saved, but is by", plan, e, n, f)
		}
		return
	}
	if len(slices.Concat(plan...)) != want || e != api.OK || n != want || f != api.OK {
		t.Error(h, from, keep, speed, "is saved by", plan, e, n, f, "and should be by", want)
	}
	if !isPlan(h, speed, plan) || !saves(h, from, keep, plan) {
		t.Error(h, from, keep, speed, "is not saved by", plan)
	}
	if is, e := weevil.Saved(h, from, keep, speed, plan); !is || e != api.OK {
		t.Error(h, from, keep, speed, "is saved by", plan, ":", is, e)
	}
}

func TestSaveAndFewest(t *testing.T) {
	for _, x := range []struct {
		name        string
		h           weevil.House
		from, keep  []int
		speed, want int
	}{
		{"example 5, bin 5", six(), list(0), list(5), 1, 1},
		{"example 5, bin 3", six(), list(0), list(3), 1, 2},
		{"example 5, bin 1", six(), list(0), list(1), 1, 3},
		{"example 5, bin 1 with a speed of 2", six(), list(0), list(1), 2, 2},
		{"bin 1 with the greatest speed", six(), list(0), list(1), 10, 2},
		{"bin 1 with no speed", six(), list(0), list(1), 0, far},
		{"two bins at once", six(), list(0), list(1, 2), 1, far},
		{"two bins with a speed of 2", six(), list(0), list(1, 2), 2, 2},
		{"three ways", six(), list(1), list(2), 1, far},
		{"three ways with a speed of 2", six(), list(1), list(2), 2, 3},
		{"three ways with a speed of 3", six(), list(1), list(2), 3, 3},
		{"from both ends", six(), list(0, 5), list(3), 1, far},
		{"from both ends with a speed of 2", six(), list(0, 5), list(3), 2, 3},
		{"from everywhere else", six(), list(0, 1, 2, 4, 5), list(3), 2, far},
		{"from everywhere else with a speed of 3", six(), list(0, 1, 2, 4, 5), list(3), 3, 3},
		{"from nowhere", six(), nil, list(0), 0, 0},
		{"to nowhere", six(), list(0), nil, 0, 0},
		{"where they cannot come", weevil.House{Bins: 4, Gaps: gaps(gap(0, 1), gap(2, 3))}, list(0), list(3), 0, 0},
		{"no gaps", side(0), list(0), list(1), 0, 0},
		{"ten gaps at once", side(10), list(0), list(1), 10, 10},
		{"nine of ten gaps at once", side(10), list(0), list(1), 9, far},
		{"a gap before the last week", weevil.House{Bins: 3, Gaps: gaps(gap(0, 1), gap(1, 2), gap(1, 2))}, list(0), list(2), 1, 1},
		{"a gap that must be closed before they are near it", weevil.House{Bins: 3, Gaps: gaps(gap(0, 1), gap(0, 1), gap(1, 2), gap(1, 2))}, list(0), list(2), 1, 2},
		{"two gaps, one week before the other", weevil.House{Bins: 5, Gaps: gaps(gap(0, 1), gap(0, 1), gap(1, 2), gap(2, 3), gap(1, 3), gap(1, 3))}, list(0), list(3), 1, 3},
		{"two gaps on each of two ways", weevil.House{Bins: 4, Gaps: gaps(gap(0, 1), gap(0, 2), gap(1, 3), gap(1, 3), gap(2, 3), gap(2, 3))}, list(0), list(3), 1, far},
		{"two gaps on one way, and one on the other", weevil.House{Bins: 4, Gaps: gaps(gap(0, 1), gap(0, 2), gap(1, 3), gap(1, 3), gap(2, 3))}, list(0), list(3), 1, 2},
		{"a row", row(7), list(0), list(6), 1, 1},
		{"all that is allowed", full(), list(0), list(6), 1, 2},
		{"all that is allowed with no speed", full(), list(0), list(6), 0, far},
		{"all that is allowed with a speed of 2", full(), list(0), list(6), 2, 2},
	} {
		t.Run(x.name, func(t *testing.T) { checkSaved(t, x.h, x.from, x.keep, x.speed, x.want) })
	}
}

func TestSpeed(t *testing.T) {
	for _, x := range []struct {
		name       string
		h          weevil.House
		from, keep []int
		want       int
	}{
		{"example 5, bin 5", six(), list(0), list(5), 1},
		{"example 5, bin 3", six(), list(0), list(3), 1},
		{"example 5, bin 1", six(), list(0), list(1), 1},
		{"two bins at once", six(), list(0), list(1, 2), 2},
		{"three ways", six(), list(1), list(2), 2},
		{"from everywhere else", six(), list(0, 1, 2, 4, 5), list(3), 3},
		{"from nowhere", six(), nil, list(0), 0},
		{"to nowhere", six(), list(0), nil, 0},
		{"where they cannot come", weevil.House{Bins: 4, Gaps: gaps(gap(0, 1), gap(2, 3))}, list(0), list(3), 0},
		{"no gaps", side(0), list(0), list(1), 0},
		{"ten gaps", side(10), list(0), list(1), 10},
	} {
		if got, e := weevil.Speed(x.h, x.from, x.keep); got != x.want || e != api.OK {
			t.Error(x.name, "needs the speed", got, e, "and should need", x.want)
		}
	}
}

// tangled returns a function that makes houses of so many bins and gaps, of which the first gap joins bins 0 and 1.
func tangled(bins, between int) func(r *rand.Rand) weevil.House {
	return func(r *rand.Rand) weevil.House {
		h := weevil.House{Bins: bins, Gaps: gaps(gap(0, 1))}
		for len(h.Gaps) < between {
			h.Gaps = append(h.Gaps, someGap(r, bins))
		}
		return h
	}
}

// TestAllPlans tries all plans of houses with few gaps, and all slow plans of houses with more. Weevils come nowhere else after
// fewer weeks than there are bins, but with the fewest gaps all weeks are tried.
func TestAllPlans(t *testing.T) {
	more, never, equal := 0, 0, 0
	try := func(weeks, speed int, from, keep []int) func(r *rand.Rand, h weevil.House) {
		return func(r *rand.Rand, h weevil.House) {
			from, keep := from, keep
			if len(from) == 0 {
				from, keep = someLists(r, h)
			}
			fewest := fewestOf(h, from, keep, weeks, speed)
			for speed, want := range fewest {
				checkSaved(t, h, from, keep, speed, want)
			}
			got, e := weevil.Speed(h, from, keep)
			if fits := got > speed || fewest[got] < far; !fits || got > 0 && fewest[min(got-1, speed)] < far || e != api.OK {
				t.Error(h, from, keep, "needs the speed", got, e, "but the fewest gaps of each one are", fewest)
			}
			switch n := fewest[1]; {
			case n == far:
				never++
			case n > leastCut(h, from, keep):
				more++
			default:
				equal++
			}
		}
	}
	trials(t, 100, tangled(4, 4), try(weevil.MaxWeeks, weevil.MaxGaps, nil, nil))
	trials(t, 200, tangled(4, 6), try(3, weevil.MaxGaps, nil, nil))
	trials(t, 200, tangled(4, 6), try(3, weevil.MaxGaps, list(0), list(1)))
	trials(t, 100, tangled(5, 7), try(4, 2, list(0), list(1)))
	trials(t, 20, tangled(7, 10), try(6, 1, list(0), list(1)))
	if more < 10 || never < 100 || equal < 100 {
		t.Error("with a speed of 1", more, "houses need more gaps than at once,", equal, "as many, and", never, "cannot be saved")
	}
}

func TestSaved(t *testing.T) {
	for _, x := range []struct {
		name  string
		keep  []int
		speed int
		plan  [][]int
		want  bool
		e     api.Errno
	}{
		{"example 5, gap 4 in the first week", list(5), 1, lists(list(4)), true, api.OK},
		{"example 5, gap 4 in the third week", list(5), 1, lists(nil, nil, list(4)), true, api.OK},
		{"example 5, gap 4 in the fourth week", list(5), 1, lists(nil, nil, nil, list(4)), false, api.OK},
		{"example 5, gap 5 in the fourth week", list(5), 1, lists(nil, nil, nil, list(5)), true, api.OK},
		{"example 5, gap 5 in the fifth week", list(5), 1, lists(nil, nil, nil, nil, list(5)), false, api.OK},
		{"example 5, bin 3", list(3), 1, lists(list(2), list(3)), true, api.OK},
		{"example 5, bin 3 a week later", list(3), 1, lists(nil, list(2), list(3)), false, api.OK},
		{"example 5, bin 1", list(1), 1, lists(list(0), list(6), list(2)), true, api.OK},
		{"example 5, bin 1 the other way round", list(1), 1, lists(list(0), list(2), list(6)), false, api.OK},
		{"example 5, bin 1 with a speed of 2", list(1), 2, lists(list(0, 1)), true, api.OK},
		{"a plan that ends too soon", list(1), 1, lists(list(0), list(6)), false, api.OK},
		{"more than is needed", list(5), 1, lists(list(5), list(4), list(3), list(2), list(1), list(0), list(6), nil, nil), true, api.OK},
		{"no plan", list(5), 10, nil, false, api.OK},
		{"weeks in which none are closed", list(5), 0, make([][]int, 9), false, api.OK},
		{"no plan, and nothing to be saved", nil, 0, nil, true, api.OK},
		{"all gaps at once", list(1, 2, 3, 4, 5), 7, lists(list(0, 1, 2, 3, 4, 5, 6)), true, api.OK},
		{"nine weeks", list(5), 1, append(lists(list(5)), make([][]int, 8)...), true, api.OK},
		{"ten weeks", list(5), 1, append(lists(list(5)), make([][]int, 9)...), false, api.ErrMany},
		{"ten weeks, and a gap that there is not", list(5), 1, append(lists(list(7)), make([][]int, 9)...), false, api.ErrMany},
		{"a speed of 11", list(5), 11, make([][]int, 10), false, api.ErrRange},
		{"a speed of -1", list(5), -1, nil, false, api.ErrRange},
		{"a gap that there is not", list(5), 1, lists(list(4), list(7)), false, api.ErrNot},
		{"gap -1", list(5), 1, lists(list(-1)), false, api.ErrNot},
		{"a gap that there is not, and not in order", list(5), 1, lists(list(7, 4)), false, api.ErrNot},
		{"gaps that are not in order", list(5), 2, lists(list(4, 3)), false, api.ErrOrder},
		{"gaps that are not in order, and too many", list(5), 1, lists(list(4, 3)), false, api.ErrOrder},
		{"a gap twice in a week", list(5), 2, lists(list(4, 4)), false, api.ErrOrder},
		{"too many in a week", list(5), 1, lists(list(3), list(4, 5)), false, api.ErrFull},
		{"any gap with a speed of 0", list(5), 0, lists(list(4)), false, api.ErrFull},
		{"too many in a week before a gap that there is not", list(5), 1, lists(list(4, 5), list(7)), false, api.ErrFull},
		{"gaps not in order before one that there is not", list(5), 2, lists(list(5, 4), list(7)), false, api.ErrOrder},
		{"a gap that there is not before too many", list(5), 1, lists(list(7), list(4, 5)), false, api.ErrNot},
		{"too many in a week before gaps not in order", list(5), 1, lists(list(4, 5), list(5, 4)), false, api.ErrFull},
		{"a gap in two weeks", list(5), 1, lists(list(4), nil, list(4)), false, api.ErrTwice},
		{"a gap in two weeks before one that there is not", list(5), 1, lists(list(4), list(4), list(7)), false, api.ErrNot},
		{"a gap in two weeks before too many", list(5), 1, lists(list(4), list(4), list(5, 6)), false, api.ErrFull},
		{"a bin in both lists", list(0), 11, nil, false, api.ErrClash},
	} {
		if got, e := weevil.Saved(six(), list(0), x.keep, x.speed, x.plan); got != x.want || e != x.e {
			t.Error(x.name, "saves:", got, e, "and should:", x.want, x.e)
		}
	}
}

func TestSomePlans(t *testing.T) {
	saving, losing := 0, 0
	tried(t, 500, func(r *rand.Rand, h weevil.House) {
		from, keep := someLists(r, h)
		speed := r.IntN(4)
		plan := somePlan(r, h, speed)
		want := saves(h, from, keep, plan)
		if got, e := weevil.Saved(h, from, keep, speed, plan); got != want || e != api.OK {
			t.Error(h, from, keep, plan, "saves:", got, e, "and should:", want)
		}
		if want {
			saving++
		} else {
			losing++
		}
	})
	if saving < 300 || losing < 300 {
		t.Error("just", saving, "plans save, and", losing, "do not")
	}
}
