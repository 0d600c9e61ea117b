package heat_test

import (
	"math"
	"math/rand/v2"
	"slices"
	"testing"

	"staddle/api"
	"staddle/heat"
)

func TestWallOfTheExamples(t *testing.T) {
	lost := barn(1)
	lost.Gangs = 0
	for _, x := range []struct {
		name string
		b    heat.Barn
		n    int
		want api.Errno
	}{
		{"example 4", barn(3), 3, api.OK},
		{"example 2", barn(2), 0, api.ErrNone},
		{"a bin that never gets warmer", cold(), 0, api.ErrNone},
		{"one that never gets warmer, and one that does", mixed(), 2, api.OK},
		{"no gangs", lost, 2, api.OK},
		{"it burns on day 0", steady(3, 0, 1), 0, api.OK},
		{"each bin on every day", steady(3, 1, 1, 1, 1), 1, api.OK},
		{"by turns of four, but for one", steady(1, 4, 4, 4, 3), 6, api.OK},
	} {
		wall, e := heat.Wall(x.b)
		if e != x.want || (e == api.OK) != (len(wall) > 0) || len(wall) > heat.MaxWall {
			t.Error(x.name, "has wall", wall, e, "and should have", x.want)
		}
		if e != api.OK {
			continue
		}
		if n, f := heat.Shows(x.b, wall); n != x.n || f != api.OK || shown(x.b, wall) != x.n {
			t.Error(x.name, "has wall", wall, "which shows", n, f, "and should show", x.n)
		}
	}
}

func TestWallOfAnyBarns(t *testing.T) {
	walls, states := 0, 0
	searched(t, func(r *rand.Rand, b heat.Barn, k known) {
		wall, e := heat.Wall(b)
		if (e == api.OK) != (k.longest != heat.Ever) || e != api.OK && (e != api.ErrNone || wall != nil) {
			t.Error(b, "is kept for", k.longest, "and has wall", wall, e)
		}
		if e != api.OK {
			return
		}
		if n, f := heat.Shows(b, wall); n != k.longest || f != api.OK || shown(b, wall) != n {
			t.Error(b, "has wall", wall, "which shows", n, f, "and should show", k.longest)
		}
		walls++
		states = max(states, len(wall))
	})
	if walls < 200 || states < 15 {
		t.Error("just", walls, "barns have a wall, of at most", states, "states")
	}
}

// wallOfThree is one for the barn of the examples with three bins.
func wallOfThree() []heat.State {
	return []heat.State{state(3, 2, 3, 1), state(2, 1, 2, 1), state(2, 1, 2, 0), state(1, 1, 1, 0),
		state(1, 0, 1, 1), state(1, 0, 2, 0), state(0, 1, 0, 0), state(0, 0, 3, 0), state(0, 0, 0, 2)}
}

func TestShowsOfTheExamples(t *testing.T) {
	lost := barn(1)
	lost.Gangs = 0
	but := func(change func(wall []heat.State) []heat.State) []heat.State { return change(wallOfThree()) }
	days := func(k, n int) []heat.State {
		return but(func(wall []heat.State) []heat.State { wall[k].Days = n; return wall })
	}
	left := func(k int, left ...int) []heat.State {
		return but(func(wall []heat.State) []heat.State { wall[k].Left = left; return wall })
	}
	with := func(more ...heat.State) []heat.State { return append(more, wallOfThree()...) }
	for _, x := range []struct {
		name string
		b    heat.Barn
		wall []heat.State
		n    int
		want api.Errno
	}{
		{"example 4", barn(3), wallOfThree(), 3, api.OK},
		{"the first state has more days", barn(3), days(0, 7), 7, api.OK},
		{"the first state has the most days", barn(3), days(0, 20000), 20000, api.OK},
		{"the first state twice, with more days", barn(3), with(state(9, 2, 3, 1)), 3, api.OK},
		{"another first state, with more days", barn(3), with(state(9, 2, 2, 1)), 3, api.OK},
		{"the first state has too few days", barn(3), days(0, 2), 0, api.ErrWrong},
		{"the last state has too many days", barn(3), days(8, 1), 0, api.ErrWrong},
		{"a state with the most left", barn(3), left(7, 0, 10, 0), 3, api.OK},
		{"the first state is not above the barn's", barn(3), left(0, 2, 1, 1), 0, api.ErrWrong},
		{"the first state alone", barn(3), wallOfThree()[:1], 0, api.ErrWrong},
		{"all but the first states", barn(3), wallOfThree()[3:], 0, api.ErrWrong},
		{"a state that does not burn on day 0", barn(3), left(6, 1, 1, 1), 0, api.ErrWrong},
		{"a state too much", barn(3), with(state(20000, 10, 10, 10)), 0, api.ErrWrong},
		{"a state too much, that burns", barn(3), with(state(0, 0, 10, 0)), 3, api.OK},
		{"another barn", barn(2), []heat.State{state(0, 0, 0), state(0, 2, 2)}, 0, api.ErrWrong},
		{"no gangs", lost, []heat.State{state(0, 0), state(1, 1), state(7, 2), state(9, 3)}, 7, api.OK},
		{"no gangs, and days that are the same", lost, []heat.State{state(1, 0), state(1, 1), state(7, 2)}, 0, api.ErrWrong},
		{"one that never gets warmer, and one that does", mixed(), []heat.State{state(0, heat.Ever, 0), state(1, heat.Ever, 1), state(2, heat.Ever, 2)}, 2, api.OK},
		{"a bin that never gets warmer", cold(), []heat.State{state(0, heat.Ever)}, 0, api.ErrWrong},
		{"a bin that never gets warmer, with less", cold(), []heat.State{state(0, 5)}, 0, api.ErrRange},
		{"as many states as can be", lost, append(slices.Repeat([]heat.State{state(0, 0)}, 19998), state(1, 1), state(2, 2)), 2, api.OK},
		{"a state too many", lost, append(slices.Repeat([]heat.State{state(0, 0)}, 19999), state(1, 1), state(2, 2)), 0, api.ErrMany},
		{"states too many, of no bins", barn(3), make([]heat.State, 20001), 0, api.ErrMany},
		{"no states", barn(3), nil, 0, api.ErrMany},
		{"a state of two bins", barn(3), left(1, 1, 2), 0, api.ErrMany},
		{"a state of four bins", barn(3), left(1, 1, 2, 1, 0), 0, api.ErrMany},
		{"a state of no bins", barn(3), left(8), 0, api.ErrMany},
		{"days -1", barn(3), days(1, -1), 0, api.ErrRange},
		{"days 20001", barn(3), days(1, 20001), 0, api.ErrRange},
		{"days Ever", barn(3), days(1, heat.Ever), 0, api.ErrRange},
		{"the most days of all", barn(3), days(1, math.MaxInt), 0, api.ErrRange},
		{"11 days left", barn(3), left(1, 11, 2, 1), 0, api.ErrRange},
		{"-1 days left", barn(3), left(1, 1, 2, -1), 0, api.ErrRange},
		{"days left for ever", barn(3), left(1, 1, heat.Ever, 1), 0, api.ErrRange},
		{"the most days left of all", barn(3), left(1, 1, math.MaxInt, 1), 0, api.ErrRange},
		{"a wrong number, then a wrong state", barn(3), but(func(wall []heat.State) []heat.State { wall[1].Days = -1; wall[2].Left = nil; return wall }), 0, api.ErrRange},
		{"a wrong state, then a wrong number", barn(3), but(func(wall []heat.State) []heat.State { wall[2].Days = -1; wall[1].Left = nil; return wall }), 0, api.ErrMany},
		{"a wrong state with a wrong number", barn(3), []heat.State{state(-1, 11)}, 0, api.ErrMany},
		{"no wall, and a wrong number", barn(3), []heat.State{state(0, 2, 2, 2), state(0, 11, 2, 2)}, 0, api.ErrRange},
	} {
		if n, e := heat.Shows(x.b, x.wall); n != x.n || e != x.want {
			t.Error(x.name, "shows", n, e, "and should show", x.n, x.want)
		}
	}
}

// TestShowsOfAllStates asks of a wall of all states of four bins, each of which is kept, without gangs, for the least of
// its numbers.
func TestShowsOfAllStates(t *testing.T) {
	b := steady(0, 10, 9, 7, 10)
	var wall []heat.State
	for n := range 11 * 11 * 11 * 11 {
		left := []int{n % 11, n / 11 % 11, n / 121 % 11, n / 1331}
		wall = append(wall, state(slices.Min(left), left...))
	}
	if n, e := heat.Shows(b, wall); n != 7 || e != api.OK {
		t.Error("all states show", n, e)
	}
	wall[len(wall)-1].Days = 9
	if n, e := heat.Shows(b, wall); n != 0 || e != api.ErrWrong {
		t.Error("all states, one with a day less, show", n, e)
	}
	wall[len(wall)-1].Days = 10
	wall = slices.DeleteFunc(wall, func(s heat.State) bool { return s.Days == 0 })
	if n, e := heat.Shows(b, wall); n != 0 || e != api.ErrWrong {
		t.Error("all states without those that burn show", n, e)
	}
}

func TestShowsOfAnyWalls(t *testing.T) {
	count := map[bool]int{}
	more := 0
	for _, make := range []func(r *rand.Rand) heat.Barn{someBarn, tightBarn} {
		trials(t, 200, make, func(r *rand.Rand, b heat.Barn) {
			longest, _ := heat.Longest(b)
			wall, e := heat.Wall(b)
			if e != api.OK {
				wall = []heat.State{{Left: leftOf(b), Days: 1}, {Left: leftOf(b), Days: 0}}
			}
			for range 6 {
				other := changedWall(r, b, wall)
				want := shown(b, other)
				n, e := heat.Shows(b, other)
				if n != max(0, want) || e != api.OK && e != api.ErrWrong || (e == api.OK) != (want >= 0) {
					t.Error(b, other, "shows", n, e, "and should show", want)
				}
				if e == api.OK && n < longest {
					t.Error(b, other, "shows", n, "but the barn can be kept for", longest)
				}
				if e == api.OK && n > longest {
					more++
				}
				count[e == api.OK]++
			}
		})
	}
	if count[true] < 200 || count[false] < 500 || more < 20 {
		t.Error("too few walls, or too many:", count, "with more days than need be:", more)
	}
}

// changedWall returns a wall with another number, or a state less, or one more.
func changedWall(r *rand.Rand, b heat.Barn, wall []heat.State) []heat.State {
	wall = copyWall(wall)
	k := r.IntN(len(wall))
	bin := r.IntN(len(b.Bins))
	s := &wall[k]
	switch r.IntN(6) {
	case 0:
		if s.Left[bin] < heat.MaxLeft {
			s.Left[bin]++
		}
	case 1:
		if s.Left[bin] > 0 && s.Left[bin] != heat.Ever {
			s.Left[bin]--
		}
	case 2:
		s.Days++
	case 3:
		s.Days = max(0, s.Days-1)
	case 4:
		if len(wall) > 1 {
			wall = slices.Delete(wall, k, k+1)
		}
	case 5:
		r.Shuffle(len(wall), func(i, j int) { wall[i], wall[j] = wall[j], wall[i] })
		wall = append(wall, heat.State{Left: slices.Clone(wall[0].Left), Days: wall[0].Days + r.IntN(3)})
	}
	return wall
}
