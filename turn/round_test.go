package turn_test

import (
	"math"
	"math/rand/v2"
	"slices"
	"testing"

	"staddle/api"
	"staddle/turn"
)

// doneAtOnce says what rounds do, round by round: where the lots are then, or the error.
func doneAtOnce(b turn.Barn, gangs int, all [][]turn.Turning) ([]int, api.Errno) {
	if len(all) > turn.MaxPlan {
		return nil, api.ErrMany
	}
	bins := in(b)
	for _, round := range all {
		if e := errorOfRound(b, gangs, bins, round); e != api.OK {
			return nil, e
		}
		for _, x := range round {
			bins[x.Lot] = x.To
		}
	}
	return bins, api.OK
}

// errorOfRound asks one thing after the other of all turnings of a round.
func errorOfRound(b turn.Barn, gangs int, bins []int, round []turn.Turning) api.Errno {
	for _, x := range round {
		if x.Lot < 0 || x.Lot >= len(b.Lots) || x.To < 0 || x.To >= len(b.Sizes) {
			return api.ErrNot
		}
	}
	for i := 1; i < len(round); i++ {
		if round[i].Lot <= round[i-1].Lot {
			return api.ErrOrder
		}
	}
	for i, x := range round {
		if slices.Contains(bins, x.To) || slices.ContainsFunc(round[:i], func(y turn.Turning) bool { return y.To == x.To }) {
			return api.ErrTwice
		}
	}
	for _, x := range round {
		if b.Sizes[x.To] < b.Lots[x.Lot].Sacks {
			return api.ErrFull
		}
	}
	if len(round) > gangs {
		return api.ErrMany
	}
	return api.OK
}

// askRounds compares the rounds of a barn with the least number of them.
func askRounds(t *testing.T, b turn.Barn, gangs, least int, want api.Errno) {
	t.Helper()
	if n, e := turn.Least(b, gangs); n != least || e != want {
		t.Error(b, "is made right by", gangs, "gangs in", n, "rounds", e, "and should be in", least, want)
	}
	all, e := turn.Rounds(b, gangs)
	bins, f := doneAtOnce(b, gangs, all)
	if len(all) != least || e != want || f != api.OK || e == api.OK && !right(b, bins) {
		t.Error(b, "is made right by", gangs, "gangs in", all, e, f, "and should be in", least, want)
	}
	if is, g := turn.Works(b, gangs, all); e == api.OK && (!is || g != api.OK) {
		t.Error(all, "do not make", b, "right", g)
	}
}

func TestRoundsOfTheExamples(t *testing.T) {
	askRounds(t, three(50, 50), 2, 2, api.OK)
	askRounds(t, three(50, 50), 1, 3, api.OK)
	askRounds(t, three(50, 50), 3, 2, api.OK)
	askRounds(t, three(50), 1, 3, api.OK)
	askRounds(t, three(50), 2, 3, api.OK)
	askRounds(t, three(50, 25), 2, 2, api.OK)
	askRounds(t, three(25, 25), 2, 3, api.OK)
	askRounds(t, three(15, 15), 3, 0, api.ErrClash)
	askRounds(t, three(), 3, 0, api.ErrClash)
	askRounds(t, three(50), 0, 0, api.ErrRange)
	askRounds(t, three(50), 4, 0, api.ErrRange)
	askRounds(t, three(50), -1, 0, api.ErrRange)
	askRounds(t, three(50), math.MaxInt, 0, api.ErrRange)
	askRounds(t, three(15), 4, 0, api.ErrRange)
	askRounds(t, light(1), 3, 0, api.OK)
	// Three lots go on by one bin each: one after the other, as a bin that becomes free in a round is filled in the next one, but
	// for those that can go out of the way.
	askRounds(t, light(4, 1, 2, 3), 3, 3, api.OK)
	askRounds(t, light(5, 1, 2, 3), 3, 2, api.OK)
	askRounds(t, light(7, 1, 2, 3, 4), 3, 2, api.OK)
	// Three go to three free bins, at once or not.
	for gangs, least := range list(3, 2, 1) {
		askRounds(t, light(6, 3, 4, 5), gangs+1, least, api.OK)
	}
	// Two rings of two: the fourth lot can go where it should be only after the third one has left, which is no sooner by a gang.
	askRounds(t, light(7, 1, 0, 3, 2), 3, 3, api.OK)
	askRounds(t, light(7, 1, 0, 3, 2), 2, 3, api.OK)
	askRounds(t, light(7, 1, 0, 3, 2), 1, 6, api.OK)
}

// TestRoundsByAllPlaces goes through all ways in which the lots of small barns could lie.
func TestRoundsByAllPlaces(t *testing.T) {
	errors := map[api.Errno]int{}
	fewer := [turn.MaxGangs + 1]int{}
	trials(t, 300, func(r *rand.Rand, b turn.Barn) {
		before := far
		for gangs := 1; gangs <= turn.MaxGangs; gangs++ {
			least, want := cheapest(b, gangs, one), api.OK
			if least < before {
				fewer[gangs]++
			}
			if before = least; least == far {
				least, want = 0, api.ErrClash
			}
			askRounds(t, b, gangs, least, want)
			errors[want]++
		}
	})
	if errors[api.OK] < 300 || errors[api.ErrClash] < 300 || fewer[2] < 50 || fewer[3] < 5 {
		t.Error("the errors are", errors, "and so many gangs help:", fewer)
	}
}

func TestWorks(t *testing.T) {
	b := three(50, 30)
	many := slices.Repeat(rounds(nil), 6000)
	for _, x := range []struct {
		gangs int
		all   [][]turn.Turning
		is    bool
		e     api.Errno
	}{
		{2, rounds(plan(to(0, 3), to(1, 4)), plan(to(0, 1), to(1, 0))), true, api.OK},
		{3, rounds(plan(to(0, 3), to(1, 4)), plan(to(0, 1), to(1, 0))), true, api.OK},
		{1, rounds(plan(to(0, 3)), plan(to(1, 0)), plan(to(0, 1))), true, api.OK},
		{2, rounds(nil, plan(to(0, 3), to(1, 4)), nil, plan(to(0, 1), to(1, 0)), nil), true, api.OK},
		{2, rounds(plan(to(0, 3), to(1, 4)), plan(to(0, 0), to(1, 1))), false, api.OK}, {2, rounds(plan(to(0, 3), to(1, 4))), false, api.OK}, {1, nil, false, api.OK}, {3, rounds(nil), false, api.OK},
		{0, rounds(plan(to(9, 9))), false, api.ErrRange}, {4, rounds(plan(to(9, 9))), false, api.ErrRange}, {math.MinInt, nil, false, api.ErrRange},
		{4, append(many, nil), false, api.ErrRange}, {3, append(many, nil), false, api.ErrMany}, {3, many, false, api.OK}, {3, append(many[1:], plan(to(0, 0))), false, api.ErrTwice},
		{3, append(many[1:], plan(to(0, 3))), false, api.OK},
		{2, rounds(plan(to(1, 4), to(0, 5))), false, api.ErrNot}, {2, rounds(plan(to(3, 4))), false, api.ErrNot}, {2, rounds(plan(to(-1, 4))), false, api.ErrNot}, {2, rounds(plan(to(0, anywhere))), false, api.ErrNot},
		{2, rounds(plan(to(1, 4), to(0, 3))), false, api.ErrOrder}, {2, rounds(plan(to(1, 4), to(1, 3))), false, api.ErrOrder}, {1, rounds(plan(to(1, 0), to(1, 0))), false, api.ErrOrder},
		{2, rounds(plan(to(0, 3), to(1, 0))), false, api.ErrTwice}, {2, rounds(plan(to(0, 3), to(1, 3))), false, api.ErrTwice}, {2, rounds(plan(to(0, 0))), false, api.ErrTwice},
		{1, rounds(plan(to(0, 4), to(2, 4))), false, api.ErrTwice}, {1, rounds(plan(to(1, 3), to(2, 2))), false, api.ErrTwice},
		{1, rounds(plan(to(0, 3), to(2, 4))), false, api.ErrFull}, {2, rounds(plan(to(0, 3), to(2, 4))), false, api.ErrFull}, {2, rounds(plan(to(2, 4)), plan(to(9, 9))), false, api.ErrFull},
		{1, rounds(plan(to(0, 3), to(1, 4))), false, api.ErrMany}, {1, rounds(plan(to(0, 3), to(1, 4)), plan(to(9, 9))), false, api.ErrMany},
		{2, rounds(plan(to(0, 3)), plan(to(1, 0), to(2, 3))), false, api.ErrTwice}, {2, rounds(plan(to(0, 3)), plan(to(1, 0), to(2, 4))), false, api.ErrFull},
	} {
		if is, e := turn.Works(b, x.gangs, x.all); is != x.is || e != x.e {
			t.Error(x.all, "of", x.gangs, "gangs work:", is, e, "and should:", x.is, x.e)
		}
	}
	all := light(7, 3, 4, 5)
	if is, e := turn.Works(all, 2, rounds(plan(to(0, 3), to(1, 4), to(2, 5)))); is || e != api.ErrMany {
		t.Error("three turnings of two gangs work:", is, e)
	}
	if is, e := turn.Works(all, 3, rounds(plan(to(0, 3), to(1, 4), to(2, 5)))); !is || e != api.OK {
		t.Error("three turnings of three gangs do not work:", is, e)
	}
}

// TestWorksRoundByRound spoils some of the rounds.
func TestWorksRoundByRound(t *testing.T) {
	errors := map[api.Errno]int{}
	works := 0
	trials(t, 2000, func(r *rand.Rand, b turn.Barn) {
		gangs := 1 + r.IntN(turn.MaxGangs)
		all := someRounds(r, b, 1+r.IntN(turn.MaxGangs), 4)
		if r.IntN(2) == 0 {
			all, _ = turn.Rounds(b, gangs)
		}
		for range max(0, r.IntN(4)-1) {
			if len(all) > 0 {
				k := r.IntN(len(all))
				all[k] = slices.Insert(all[k], r.IntN(len(all[k])+1), to(r.IntN(len(b.Lots)*2+2)/2, r.IntN(len(b.Sizes)*2+2)/2))
			}
		}
		bins, want := doneAtOnce(b, gangs, all)
		is, e := turn.Works(b, gangs, all)
		if e != want || is != (e == api.OK && right(b, bins)) {
			t.Error(all, "of", gangs, "gangs work in", b, ":", is, e, "and should have error", want)
		}
		if errors[e]++; is && len(all) > 0 {
			works++
		}
	})
	for _, e := range []api.Errno{api.OK, api.ErrNot, api.ErrOrder, api.ErrTwice, api.ErrMany} {
		if errors[e] < 100 {
			t.Error("just", errors[e], "have error", e)
		}
	}
	if errors[api.ErrFull] < 20 || works < 100 {
		t.Error("just", errors[api.ErrFull], "do not hold a lot, and", works, "rounds work")
	}
}
