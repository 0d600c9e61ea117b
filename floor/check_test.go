package floor_test

import (
	"math"
	"math/rand/v2"
	"slices"
	"testing"

	"staddle/api"
	"staddle/floor"
)

func TestCheckAtTheLimits(t *testing.T) {
	bays := func(n int) floor.Floor {
		return floor.Floor{Bears: make([]int, n)}
	}
	bins := func(n int) floor.Floor {
		return but(func(f *floor.Floor) { f.Bins = append(f.Bins, slices.Repeat(f.Bins[2:], n-3)...) })
	}
	turnings := func(n int) floor.Floor { return gate(4000, 0, slices.Repeat(list(1), n)) }
	rules := func(n int) floor.Floor { return barn(slices.Repeat([]floor.Rule{rule(0, 1)}, n)...) }
	bears := func(n int) floor.Floor { return but(func(f *floor.Floor) { f.Bears[1] = n }) }
	has := func(n int) floor.Floor { return but(func(f *floor.Floor) { f.Bins[2].Has = n }) }
	shares := func(n ...int) floor.Floor { return but(func(f *floor.Floor) { f.Bins[2].Shares = n }) }
	moved := func(from, to, sacks int) floor.Floor {
		return but(func(f *floor.Floor) { f.Turnings[2] = move(from, to, sacks) })
	}
	const many, far, no, twice, wrong, clash = api.ErrMany, api.ErrRange, api.ErrNot, api.ErrTwice, api.ErrWrong, api.ErrClash
	for _, x := range []struct {
		name string
		f    floor.Floor
		want api.Errno
	}{
		{"the examples", barn(), api.OK}, {"all that is allowed", full(), api.OK},
		{"one bay", bays(1), api.OK}, {"four bays", bays(4), api.OK}, {"no bays", bays(0), many}, {"nothing at all", floor.Floor{}, many}, {"five bays", bays(5), many},
		{"no bins", bays(2), api.OK}, {"six bins", bins(6), api.OK}, {"seven bins", bins(7), many},
		{"no turnings", turnings(0), api.OK}, {"eight turnings", turnings(8), api.OK}, {"nine turnings", turnings(9), many},
		{"no rules", rules(0), api.OK}, {"16 rules", rules(16), api.OK}, {"17 rules", rules(17), many},
		{"a share too few", shares(4), many}, {"a share too many", shares(0, 4, 0), many}, {"no shares", shares(), many},
		{"a bay that bears nothing", bears(0), api.OK}, {"a bay that bears 4000", bears(4000), api.OK},
		{"a bay that bears -1", bears(-1), far}, {"a bay that bears 4001", bears(4001), far}, {"a bay that bears the most of all", bears(math.MaxInt), far},
		{"a bin with 300 sacks", has(300), api.OK}, {"a bin with -1 sacks", has(-1), far}, {"a bin with 301 sacks", has(301), far},
		{"shares on both", shares(1, 3), api.OK}, {"all shares on the first one", shares(4, 0), api.OK},
		{"a share of -1", shares(-1, 4), far}, {"a share of 5", shares(5, 0), far}, {"shares of 5 and -1", shares(5, -1), far},
		{"shares of 3 in all", shares(1, 2), wrong}, {"shares of 5 in all", shares(4, 1), wrong}, {"shares of 0 in all", shares(0, 0), wrong},
		{"one sack", moved(-1, 0, 1), api.OK}, {"300 sacks", moved(-1, 0, 300), api.OK},
		{"no sacks", moved(-1, 0, 0), far}, {"301 sacks", moved(-1, 0, 301), far}, {"-1 sacks", moved(-1, 0, -1), far},
		{"to the last bin", moved(-1, 2, 1), api.OK}, {"to a bin that there is not", moved(-1, 3, 1), no}, {"to a bin before what is outside", moved(0, -2, 1), no},
		{"from a bin that there is not", moved(3, 0, 1), no}, {"from a bin before what is outside", moved(-2, 0, 1), no},
		{"from a bin to itself", moved(0, 0, 1), twice}, {"from outside to outside", moved(-1, -1, 1), twice},
		{"to the bakers", moved(0, -1, 20), api.OK}, {"one sack more than there are", moved(0, -1, 21), wrong},
		{"more than there are, though some come before", moved(2, 0, 1), wrong},
		{"a rule for the last turning", barn(rule(0, 2)), api.OK}, {"a rule for one that there is not", barn(rule(0, 3)), no}, {"a rule after one that there is not", barn(rule(3, 0)), no},
		{"a rule for turning -1", barn(rule(0, -1)), no}, {"a rule after turning -1", barn(rule(-1, 0)), no}, {"a rule of turnings that there are not at all", floor.Floor{Bears: list(1), Rules: []floor.Rule{rule(0, 0)}}, no},
		{"the same rule again", barn(rule(0, 1), rule(0, 1)), api.OK}, {"rules in a row, and the short way", barn(rule(1, 2), rule(0, 2), rule(0, 1)), api.OK},
		{"a turning before itself", barn(rule(2, 2)), clash}, {"two before one another", barn(rule(1, 2), rule(2, 1)), clash}, {"three in a circle", barn(rule(2, 0), rule(0, 1), rule(1, 2)), clash},
		{"a circle behind another turning", barn(rule(0, 1), rule(1, 2), rule(2, 1)), clash},
	} {
		if e := floor.Check(x.f); e != x.want {
			t.Error(x.name, "has error", e, "and should have", x.want)
		}
	}
}

// TestCheckInOrder has errors of which the first one that the chapter names is to be returned.
func TestCheckInOrder(t *testing.T) {
	few := func(f *floor.Floor) { f.Bins[2].Shares = list(4) }
	heavy := func(f *floor.Floor) { f.Bears[1] = -1 }
	none := func(f *floor.Floor) { f.Turnings[2].Sacks = 0 }
	nowhere := func(f *floor.Floor) { f.Turnings[2].To = 3 }
	never := func(f *floor.Floor) { f.Rules = append(f.Rules, rule(0, 3)) }
	still := func(f *floor.Floor) { f.Turnings[2].To = floor.Outside }
	light := func(f *floor.Floor) { f.Bins[2].Shares = list(1, 1) }
	empty := func(f *floor.Floor) { f.Bins[0].Has = 39 }
	circle := func(f *floor.Floor) { f.Rules = append(f.Rules, rule(2, 0)) }
	for _, x := range []struct {
		name    string
		changes []func(f *floor.Floor)
		want    api.Errno
	}{
		{"a share too few", []func(f *floor.Floor){few, heavy, nowhere, still, empty, circle}, api.ErrMany},
		{"a bay that bears too little", []func(f *floor.Floor){heavy, nowhere, light, circle}, api.ErrRange},
		{"no sacks", []func(f *floor.Floor){none, never, circle}, api.ErrRange},
		{"a bin that there is not", []func(f *floor.Floor){nowhere, light, circle}, api.ErrNot},
		{"a turning that there is not", []func(f *floor.Floor){never, still, circle}, api.ErrNot},
		{"from outside to outside", []func(f *floor.Floor){still, light, empty, circle}, api.ErrTwice},
		{"two quarters", []func(f *floor.Floor){light, circle}, api.ErrWrong},
		{"too few sacks", []func(f *floor.Floor){empty, circle}, api.ErrWrong},
		{"a circle", []func(f *floor.Floor){circle}, api.ErrClash},
	} {
		f := but(func(f *floor.Floor) {
			for _, change := range x.changes {
				change(f)
			}
		})
		if e := floor.Check(f); e != x.want {
			t.Error(x.name, "has error", e, "and should have", x.want)
		}
	}
}

func TestAhead(t *testing.T) {
	eight := gate(4000, 0, slices.Repeat(list(1), 8), rule(7, 6), rule(6, 5), rule(5, 4), rule(4, 3), rule(3, 2), rule(2, 1), rule(1, 0))
	for _, x := range []struct {
		name    string
		f       floor.Floor
		turning int
		want    []int
		e       api.Errno
	}{
		{"no rules", barn(), 1, nil, api.OK},
		{"one rule", barn(rule(0, 2)), 2, list(0), api.OK},
		{"the other one of this rule", barn(rule(0, 2)), 0, nil, api.OK},
		{"a rule twice", barn(rule(0, 2), rule(0, 2)), 2, list(0), api.OK},
		{"two in a row", barn(rule(2, 1), rule(1, 0)), 0, list(1, 2), api.OK},
		{"two in a row, the last rule first", barn(rule(1, 0), rule(2, 1)), 0, list(1, 2), api.OK},
		{"two beside one another", barn(rule(2, 0), rule(1, 0)), 0, list(1, 2), api.OK},
		{"all in a row", eight, 0, list(1, 2, 3, 4, 5, 6, 7), api.OK},
		{"half of them", eight, 4, list(5, 6, 7), api.OK},
		{"the first of all", eight, 7, nil, api.OK},
		{"a turning too many", barn(), 3, nil, api.ErrNot},
		{"a turning before the first", barn(), -1, nil, api.ErrNot},
		{"one of none", gate(1, 0, nil), 0, nil, api.ErrNot},
	} {
		if got, e := floor.Ahead(x.f, x.turning); !slices.Equal(got, x.want) || e != x.e {
			t.Error(x.name, "has", got, e, "and should have", x.want, x.e)
		}
	}
	for _, make := range kinds() {
		trials(t, 300, make, func(r *rand.Rand, f floor.Floor) {
			for k := range f.Turnings {
				if got, e := floor.Ahead(f, k); !slices.Equal(got, aheadOf(f, k)) || e != api.OK {
					t.Error(f, k, "has ahead", got, e, "and should have", aheadOf(f, k))
				}
			}
		})
	}
}

func TestWait(t *testing.T) {
	for _, x := range []struct {
		name string
		f    floor.Floor
		r    floor.Rule
		e    api.Errno
	}{
		{"the first rule", barn(), rule(0, 1), api.OK},
		{"another rule", barn(rule(0, 1)), rule(1, 2), api.OK},
		{"the same rule again", barn(rule(0, 1)), rule(0, 1), api.OK},
		{"the sixteenth rule", barn(slices.Repeat([]floor.Rule{rule(0, 1)}, 15)...), rule(0, 2), api.OK},
		{"the seventeenth rule", full(), rule(0, 1), api.ErrFull},
		{"the seventeenth rule, of a turning that there is not", full(), rule(0, 8), api.ErrFull},
		{"the seventeenth rule, in a circle", full(), rule(4, 0), api.ErrFull},
		{"for a turning that there is not", barn(), rule(0, 3), api.ErrNot},
		{"after a turning that there is not", barn(), rule(-1, 0), api.ErrNot},
		{"before itself", barn(), rule(1, 1), api.ErrClash},
		{"a circle of two", barn(rule(0, 1)), rule(1, 0), api.ErrClash},
		{"a circle of three", barn(rule(0, 1), rule(1, 2)), rule(2, 0), api.ErrClash},
	} {
		want := floor.Floor{}
		if x.e == api.OK {
			want = copyFloor(x.f)
			want.Rules = append(want.Rules, x.r)
		}
		if got, e := floor.Wait(x.f, x.r); !sameFloor(got, want) || e != x.e {
			t.Error(x.name, "gives", got, e, "and should give", want, x.e)
		}
	}
}
