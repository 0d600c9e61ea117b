package floor_test

import (
	"math"
	"math/rand/v2"
	"slices"
	"testing"

	"staddle/api"
	"staddle/floor"
)

// checkSafe asks all that there is about the orders of a floor that keep.
func checkSafe(t *testing.T, f floor.Floor, k known) {
	t.Helper()
	none := api.OK
	if k.keep == 0 {
		none = api.ErrNone
	}
	count, e := floor.Count(f)
	safe, g := floor.Safe(f)
	if count != k.keep || e != api.OK || !slices.Equal(safe, k.safe) || g != none {
		t.Error(f, "is kept by", count, e, "orders, first by", safe, g, "and should by", k.keep, k.safe)
	}
	firsts, e := floor.Firsts(f)
	if slices.Sort(k.firsts); !slices.Equal(firsts, k.firsts) || e != none {
		t.Error(f, "can begin with", firsts, e, "and should with", k.firsts)
	}
	best, margin, e := floor.Safest(f)
	_, g = floor.Keeps(f, best)
	if margin != k.margin || e != api.OK || g != api.OK || marginOf(f, loadsOf(f, best)) != margin {
		t.Error(f, "has the margin", margin, e, "by", best, g, "and should have", k.margin)
	}
}

// checkMust asks of each two turnings whether the one must come before the other.
func checkMust(t *testing.T, f floor.Floor, k known) {
	t.Helper()
	for a := range f.Turnings {
		for b := range f.Turnings {
			is, e := floor.Must(f, a, b)
			want, wantE := k.before[a][b], api.OK
			switch {
			case a == b:
				want, wantE = false, api.ErrTwice
			case k.keep == 0:
				want, wantE = false, api.ErrNone
			}
			if is != want || e != wantE {
				t.Error(f, a, "must come before", b, ":", is, e, "and should:", want, wantE)
			}
		}
	}
}

func TestSafeOrdersOfTheExamples(t *testing.T) {
	for _, x := range []struct {
		name         string
		f            floor.Floor
		safe, firsts []int
		count        int
		margin       int
	}{
		{"example 2", barn(), list(0, 1, 2), list(0, 1), 4, 80},
		{"example 4", barn(rule(0, 2)), list(0, 1, 2), list(0, 1), 3, 80},
		{"example 5", barn(rule(2, 0), rule(2, 1)), nil, nil, 0, -60},
		{"one first of all", barn(rule(1, 0)), list(1, 0, 2), list(1), 2, 80},
		{"the first two are taken", gate(80, 20, list(10, -5, -5)), list(1, 2, 0), list(1, 2), 2, 0},
		{"one of them is taken first", gate(100, 20, list(10, -5, -5)), list(1, 0, 2), list(1, 2), 4, 20},
		{"whatever is done", gate(120, 20, list(10, -5, -5)), list(0, 1, 2), list(0, 1, 2), 6, 40},
		{"overloaded at first", gate(79, 20, list(-5)), nil, nil, 0, -1},
		{"no turnings", gate(80, 20, nil), nil, nil, 1, 0},
		{"no turnings, and too much", gate(79, 20, nil), nil, nil, 0, -1},
		{"no bins", floor.Floor{Bears: list(3, 4)}, nil, nil, 1, 3},
		{"too much in the end", gate(119, 20, list(10)), nil, nil, 0, -1},
		{"all in a row", gate(4000, 0, slices.Repeat(list(1), 4), rule(3, 2), rule(2, 1), rule(1, 0)), list(3, 2, 1, 0), list(3), 1, 3984},
	} {
		want := api.OK
		if x.count == 0 {
			want = api.ErrNone
		}
		safe, e := floor.Safe(x.f)
		firsts, f := floor.Firsts(x.f)
		count, g := floor.Count(x.f)
		best, margin, h := floor.Safest(x.f)
		if !slices.Equal(safe, x.safe) || e != want || !slices.Equal(firsts, x.firsts) || f != want {
			t.Error(x.name, "is kept first by", safe, e, "beginning with", firsts, f)
		}
		if count != x.count || g != api.OK || margin != x.margin || h != api.OK || marginOf(x.f, loadsOf(x.f, best)) != margin {
			t.Error(x.name, "is kept by", count, g, "orders, with the margin", margin, h, "by", best)
		}
	}
}

func TestSafeOrdersOfAnyFloors(t *testing.T) {
	some, none, all := 0, 0, 0
	searched(t, func(r *rand.Rand, f floor.Floor, k known) {
		checkSafe(t, f, k)
		switch k.keep {
		case 0:
			none++
		case k.orders:
			all++
		default:
			some++
		}
	})
	if some < 100 || none < 100 || all < 100 {
		t.Error("all orders keep of", all, "floors, some of", some, "and none of", none)
	}
}

// TestSafeOrdersOfEightTurnings goes through 40320 orders for each floor.
func TestSafeOrdersOfEightTurnings(t *testing.T) {
	free := gate(4000, 20, slices.Repeat(list(1), 8))
	if n, e := floor.Count(free); n != 40320 || e != api.OK {
		t.Error("there are", n, e, "orders of 8 turnings without rules")
	}
	eight := func(r *rand.Rand) floor.Floor {
		var f floor.Floor
		for len(f.Turnings) < floor.MaxTurnings {
			f = floor.Floor{Bears: list(0, 0)}
			for range 3 {
				f.Bins = append(f.Bins, bin(40+r.IntN(60), someShares(r, 2)...))
			}
			addTurnings(r, &f, floor.MaxTurnings, 30)
		}
		addRules(r, &f, r.IntN(3))
		loads := loadsOf(f, someOrder(r, f))
		for bay := range f.Bears {
			f.Bears[bay] = mostOf(loads, bay)
		}
		return f
	}
	trials(t, 5, eight, func(r *rand.Rand, f floor.Floor) {
		k := look(f)
		checkSafe(t, f, k)
		checkMust(t, f, k)
	})
}

func TestMust(t *testing.T) {
	none := barn(rule(2, 0), rule(2, 1))
	for _, x := range []struct {
		name string
		f    floor.Floor
		a, b int
		want bool
		e    api.Errno
	}{
		{"example 2", barn(), 0, 2, false, api.OK},
		{"a rule", barn(rule(0, 2)), 0, 2, true, api.OK},
		{"a rule the other way round", barn(rule(0, 2)), 2, 0, false, api.OK},
		{"two rules", barn(rule(1, 0), rule(0, 2)), 1, 2, true, api.OK},
		{"room must be made first", gate(80, 20, list(10, -5, -5)), 1, 0, true, api.OK},
		{"room must be made first by both", gate(80, 20, list(10, -5, -5)), 2, 0, true, api.OK},
		{"the other way round", gate(80, 20, list(10, -5, -5)), 0, 1, false, api.OK},
		{"both make room", gate(80, 20, list(10, -5, -5)), 1, 2, false, api.OK},
		{"one of them must make room", gate(100, 20, list(10, -5, -5)), 1, 0, false, api.OK},
		{"a turning too many", barn(), 0, 3, false, api.ErrNot},
		{"a turning too many before another one", barn(), 3, 0, false, api.ErrNot},
		{"a turning that there is not, twice", barn(), -1, -1, false, api.ErrNot},
		{"the least and the greatest of all", barn(), math.MinInt, math.MaxInt, false, api.ErrNot},
		{"one that there is not, where no order keeps", none, 0, 3, false, api.ErrNot},
		{"the same", barn(), 1, 1, false, api.ErrTwice},
		{"the same, where no order keeps", none, 1, 1, false, api.ErrTwice},
		{"no order keeps", none, 2, 1, false, api.ErrNone},
		{"no order keeps, the other way round", none, 1, 2, false, api.ErrNone},
	} {
		if is, e := floor.Must(x.f, x.a, x.b); is != x.want || e != x.e {
			t.Error(x.name, "must:", is, e, "and should:", x.want, x.e)
		}
	}
	searched(t, func(r *rand.Rand, f floor.Floor, k known) { checkMust(t, f, k) })
}
