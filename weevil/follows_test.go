package weevil_test

import (
	"math/rand/v2"
	"slices"
	"testing"

	"staddle/api"
	"staddle/weevil"
)

// TestWeevilsAreShutInByAsFewGapsAsCanBe goes by what the functions say of one another.
func TestWeevilsAreShutInByAsFewGapsAsCanBe(t *testing.T) {
	shut := 0
	tried(t, 500, func(r *rand.Rand, h weevil.House) {
		from, keep := someLists(r, h)
		cut, e := weevil.Cut(h, from, keep)
		ways, f := weevil.Ways(h, from, keep)
		n, g := weevil.Leads(h, from, keep, ways)
		is, i := weevil.Shuts(h, from, keep, cut)
		if e != api.OK || f != api.OK || g != api.OK || i != api.OK || len(cut) != len(ways) || n != len(ways) || !is {
			t.Error(h, from, keep, "is shut by", cut, e, is, i, "and has the ways", ways, f, n, g)
		}
		for k := range cut {
			fewer := slices.Delete(slices.Clone(cut), k, k+1)
			if is, e := weevil.Shuts(h, from, keep, fewer); is || e != api.OK {
				t.Error(h, from, keep, "is shut by", fewer, "of", cut)
			}
			shut++
		}
	})
	if shut < 1000 {
		t.Error("just", shut, "gaps are closed")
	}
}

func TestBinsAreSavedOrItIsSaidThatTheyCannotBe(t *testing.T) {
	dear, lost := 0, 0
	tried(t, 300, func(r *rand.Rand, h weevil.House) {
		from, keep := someLists(r, h)
		cut, _ := weevil.Cut(h, from, keep)
		least, e := weevil.Speed(h, from, keep)
		if e != api.OK || least > len(cut) {
			t.Error(h, from, keep, "needs the speed", least, e, "and is shut by", cut)
		}
		last := weevil.MaxGaps + 1
		for speed := range weevil.MaxGaps + 1 {
			plan, e := weevil.Save(h, from, keep, speed)
			n, f := weevil.Fewest(h, from, keep, speed)
			if e != f || (e == api.OK) != (speed >= least) || e != api.OK && e != api.ErrNone || n != len(slices.Concat(plan...)) {
				t.Error(h, from, keep, speed, "is saved by", plan, e, n, f, "and needs the speed", least)
			}
			if e == api.ErrNone {
				lost++
				continue
			}
			is, g := weevil.Saved(h, from, keep, speed, plan)
			if !is || g != api.OK || n < len(cut) || n > last || speed >= len(cut) && n != len(cut) {
				t.Error(h, from, keep, speed, "is saved by", plan, is, g, "before by", last, "and is shut by", cut)
			}
			if n > len(cut) {
				dear++
			}
			last = n
		}
	})
	if dear < 20 || lost < 500 {
		t.Error("just", dear, "plans close more gaps than are needed at once, and", lost, "do not save")
	}
}

func TestAPlanThatSavesClosesNoFewerGaps(t *testing.T) {
	saving := 0
	tried(t, 500, func(r *rand.Rand, h weevil.House) {
		from, keep := someLists(r, h)
		speed := 1 + r.IntN(3)
		plan := somePlan(r, h, speed)
		is, e := weevil.Saved(h, from, keep, speed, plan)
		if e != api.OK {
			t.Error(h, from, keep, plan, "has error", e)
		}
		if !is {
			return
		}
		cut, _ := weevil.Cut(h, from, keep)
		n, f := weevil.Fewest(h, from, keep, speed)
		all := slices.Concat(plan...)
		if shuts, g := weevil.Shuts(h, from, keep, all); len(all) < len(cut) || len(all) < n || f != api.OK || g != api.OK || len(plan) == 1 && !shuts {
			t.Error(h, from, keep, "is saved by", plan, "but needs", n, f, "and is shut by", cut, shuts, g)
		}
		if len(cut) > 0 {
			saving++
		}
	})
	if saving < 100 {
		t.Error("just", saving, "plans save")
	}
}

func TestThereAreNoFewerOriginsThanSightsThatAreApart(t *testing.T) {
	several := 0
	tried(t, 500, func(r *rand.Rand, h weevil.House) {
		origins, e := weevil.Origins(h)
		apart, f := weevil.Apart(h)
		_, g := weevil.Clash(h)
		if e != f || (e == api.OK) != (g == api.ErrNone) || len(origins) < len(apart) {
			t.Error(h, "comes from", origins, e, "has apart", apart, f, "and clashes:", g)
		}
		if is, i := weevil.Explains(h, origins); e == api.OK && (!is || i != api.OK) {
			t.Error(h, "comes from", origins, "which explains all:", is, i)
		}
		if len(apart) > 1 {
			several++
		}
	})
	if several < 50 {
		t.Error("just", several, "houses have several sights that are apart")
	}
}

func TestWhereWeevilsSurelyAreTheyPerhapsAre(t *testing.T) {
	sure := 0
	tried(t, 500, func(r *rand.Rand, h weevil.House) {
		cleared, _ := weevil.Cleared(h)
		var before, could []int
		for week := range weevil.MaxWeeks + 1 {
			surely, e := weevil.Surely(h, week)
			perhaps, f := weevil.Perhaps(h, week)
			if e != f || e != api.OK && e != api.ErrClash || !holds(perhaps, surely) || !holds(surely, before) || !holds(perhaps, could) {
				t.Error(h, week, "has for certain", surely, e, "and perhaps", perhaps, f)
			}
			if week == 0 && meet(perhaps, cleared) {
				t.Error(h, "perhaps has weevils at first in", perhaps, "but cleared are", cleared)
			}
			before, could = surely, perhaps
			sure += len(surely)
		}
	})
	if sure < 1000 {
		t.Error("just", sure, "bins are sure")
	}
}

// holds says whether all of a list is in another one.
func holds(all, some []int) bool {
	return !slices.ContainsFunc(some, func(n int) bool { return !slices.Contains(all, n) })
}

func TestOneSightMoreNeverTellsLess(t *testing.T) {
	surer, fewer := 0, 0
	tried(t, 500, func(r *rand.Rand, h weevil.House) {
		if len(h.Sights) == weevil.MaxSights {
			return
		}
		s := weevil.Sight{Week: r.IntN(4), Bin: r.IntN(h.Bins), Seen: r.IntN(2) == 0}
		more, e := weevil.See(h, s)
		if e != api.OK {
			t.Error(h, s, "has error", e)
		}
		if _, e := weevil.Origins(more); e != api.OK {
			return
		}
		week := r.IntN(4)
		surely, e := weevil.Surely(h, week)
		perhaps, f := weevil.Perhaps(h, week)
		after, g := weevil.Surely(more, week)
		could, i := weevil.Perhaps(more, week)
		if e != api.OK || f != api.OK || g != api.OK || i != api.OK || !holds(after, surely) || !holds(perhaps, could) {
			t.Error(h, s, "has for certain", surely, e, "then", after, g, "and perhaps", perhaps, f, "then", could, i)
		}
		if len(after) > len(surely) {
			surer++
		}
		if len(could) < len(perhaps) {
			fewer++
		}
	})
	if surer < 50 || fewer < 50 {
		t.Error("just", surer, "sights make more bins sure, and", fewer, "make fewer possible")
	}
}

func TestWithOneGapLessNothingIsReachedEarlier(t *testing.T) {
	later := 0
	tried(t, 500, func(r *rand.Rand, h weevil.House) {
		from := someList(r, h.Bins, 2)
		before, e := weevil.Weeks(h, from)
		for k := range h.Gaps {
			less, f := weevil.Close(h, k)
			after, g := weevil.Weeks(less, from)
			if e != api.OK || f != api.OK || g != api.OK || len(after) != len(before) {
				t.Fatal(h, k, "has weeks", before, e, "and then", after, f, g)
			}
			for bin, week := range after {
				if week != weevil.Never && (before[bin] == weevil.Never || week < before[bin]) {
					t.Error(h, k, "has weeks", before, "and then", after)
				}
				if week != before[bin] {
					later++
				}
			}
		}
	})
	if later < 500 {
		t.Error("just", later, "bins are reached later")
	}
}

func TestFromNowhereNothingIsReached(t *testing.T) {
	tried(t, 200, func(r *rand.Rand, h weevil.House) {
		weeks, e := weevil.Weeks(h, nil)
		if e != api.OK || len(weeks) != h.Bins || slices.ContainsFunc(weeks, func(n int) bool { return n != weevil.Never }) {
			t.Error(h, "is reached from nowhere:", weeks, e)
		}
		keep := someList(r, h.Bins, h.Bins)
		for _, l := range [][2][]int{{nil, keep}, {keep, nil}, {nil, nil}} {
			checkCut(t, h, l[0], l[1], 0)
			checkSaved(t, h, l[0], l[1], r.IntN(weevil.MaxGaps+1), 0)
			checkSaved(t, h, l[0], l[1], 0, 0)
			if n, e := weevil.Speed(h, l[0], l[1]); n != 0 || e != api.OK {
				t.Error(h, l, "needs the speed", n, e)
			}
		}
	})
}
