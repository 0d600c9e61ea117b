package floor_test

import (
	"math/rand/v2"
	"slices"
	"testing"

	"staddle/api"
	"staddle/floor"
)

// checkMost asks all that there is about the greatest load of a bay.
func checkMost(t *testing.T, f floor.Floor, bay, want int) {
	t.Helper()
	most, e := floor.Most(f, bay)
	if most != want || e != api.OK {
		t.Error(f, bay, "bears at most", most, e, "and should bear", want)
	}
	set, e := floor.Heaviest(f, bay)
	after := loadsOf(f, set)
	if e != api.OK || !isWhole(f, set) || !slices.IsSorted(set) || len(slices.Compact(slices.Clone(set))) != len(set) || after[len(set)][bay] != want {
		t.Error(f, bay, "bears after", set, e, "not", want, "but", after)
	}
	order, e := floor.Worst(f, bay)
	if _, g := floor.Loads(f, order); e != api.OK || g != api.OK || mostOf(loadsOf(f, order), bay) != want {
		t.Error(f, bay, "never bears in the order", order, e, g, "what is most:", want)
	}
	pays, e := floor.Payments(f, bay)
	bound, holds := holding(f, bay, pays)
	for _, p := range pays {
		holds = holds && p.Much >= 1 && isAhead(f, p.To, p.From)
	}
	shown, g := floor.Bounds(f, bay, pays)
	if e != api.OK || !holds || bound != want || shown != want || g != api.OK {
		t.Error(f, bay, "has payments", pays, e, "that hold:", holds, "and bound", bound, shown, g, "and should bound", want)
	}
}

func TestMostOfTheExamples(t *testing.T) {
	for _, x := range []struct {
		name string
		f    floor.Floor
		bay  int
		want int
	}{
		{"example 2", barn(), 0, 460},
		{"example 2, the other bay", barn(), 1, 200},
		{"example 4", barn(rule(0, 2)), 0, 380},
		{"example 4, the other bay", barn(rule(0, 2)), 1, 200},
		{"both before it", barn(rule(0, 2), rule(1, 2)), 0, 320},
		{"one of them in a row", barn(rule(1, 0), rule(0, 2)), 0, 320},
		{"example 5", barn(rule(2, 0), rule(2, 1)), 0, 460},
		{"no turnings", gate(90, 20, nil), 0, 80},
		{"just less", gate(90, 20, list(-5, -15)), 0, 80},
		{"just more", gate(90, 20, list(5, 15)), 0, 160},
		{"no bins", floor.Floor{Bears: list(3, 4)}, 1, 0},
		{"each paid by one", gate(90, 20, list(-5, 10, -15, 10), rule(0, 1), rule(2, 3)), 0, 100},
		{"one paid by two", gate(90, 20, list(-5, 10, -3, 10), rule(0, 1), rule(2, 1), rule(0, 3), rule(2, 3)), 0, 128},
		{"a payment that is better made by another one", gate(90, 20, list(-5, -5, 5, 5), rule(0, 2), rule(1, 2), rule(0, 3)), 0, 80},
		{"the same with the other one first", gate(90, 20, list(-5, -5, 5, 5), rule(0, 3), rule(1, 3), rule(0, 2)), 0, 80},
		{"three of which each makes room for the next", gate(90, 20, list(-5, -5, -5, 5, 5, 5), rule(0, 3), rule(1, 3), rule(0, 4), rule(2, 4), rule(0, 5)), 0, 80},
		{"a part is left", gate(90, 20, list(-5, -4, 6, 7), rule(0, 2), rule(1, 2), rule(0, 3)), 0, 96},
		{"what is brought pays for nothing", gate(90, 20, list(5, -5, 7), rule(0, 2)), 0, 128},
		{"what is taken first in a row of three", gate(90, 20, list(9, -9, 3), rule(1, 2), rule(2, 0)), 0, 92},
	} {
		t.Run(x.name, func(t *testing.T) { checkMost(t, x.f, x.bay, x.want) })
	}
}

func TestMostOfAnyFloors(t *testing.T) {
	paid := 0
	searched(t, func(r *rand.Rand, f floor.Floor, k known) {
		for bay := range f.Bears {
			checkMost(t, f, bay, k.most[bay])
			if pays, _ := floor.Payments(f, bay); len(pays) > 0 {
				paid++
			}
		}
	})
	if paid < 200 {
		t.Error("there are payments for just", paid, "bays")
	}
}

// TestMostWithManyPayments goes through whole sets instead of orders, which are too many.
func TestMostWithManyPayments(t *testing.T) {
	paid := 0
	many := func(r *rand.Rand) floor.Floor { return outAndIn(r, floor.MaxTurnings, floor.MaxRules) }
	trials(t, 500, many, func(r *rand.Rand, f floor.Floor) {
		checkMost(t, f, 0, heaviestOf(f, 0))
		if pays, _ := floor.Payments(f, 0); len(pays) > 3 {
			paid++
		}
	})
	if paid < 50 {
		t.Error("there are more than three payments for just", paid, "floors")
	}
}

// TestMostAtTheLimits goes through whole sets, too.
func TestMostAtTheLimits(t *testing.T) {
	big := func(r *rand.Rand) floor.Floor {
		f := floor.Floor{Bears: list(r.IntN(4001), r.IntN(4001), r.IntN(4001), r.IntN(4001))}
		for range floor.MaxBins {
			f.Bins = append(f.Bins, bin(r.IntN(floor.MaxSacks+1), someShares(r, floor.MaxBays)...))
		}
		for len(f.Turnings) < floor.MaxTurnings {
			f.Turnings = nil
			addTurnings(r, &f, floor.MaxTurnings, floor.MaxSacks)
		}
		addRules(r, &f, floor.MaxRules)
		return f
	}
	trials(t, 100, big, func(r *rand.Rand, f floor.Floor) {
		for bay := range f.Bears {
			checkMost(t, f, bay, heaviestOf(f, bay))
		}
	})
	checkMost(t, full(), 0, 300*(5*1+4)+300*(7*1+4))
}

func TestBaysThatThereAreNot(t *testing.T) {
	for _, bay := range []int{-1, 2, 1 << 62, -1 << 63} {
		most, e := floor.Most(barn(), bay)
		set, f := floor.Heaviest(barn(), bay)
		order, g := floor.Worst(barn(), bay)
		list, h := floor.Payments(barn(), bay)
		bound, i := floor.Bounds(barn(), bay, pays(pay(9, 9, 0)))
		if most != 0 || len(set) > 0 || len(order) > 0 || len(list) > 0 || bound != 0 {
			t.Error(bay, "has", most, set, order, list, bound)
		}
		if n := api.ErrNot; e != n || f != n || g != n || h != n || i != n {
			t.Error(bay, "has errors", e, f, g, h, i)
		}
	}
}

func TestRisk(t *testing.T) {
	tight := barn()
	tight.Bears = list(460, 200)
	other := barn()
	other.Bears = list(460, 199)
	both := barn()
	both.Bears = list(459, 199)
	for _, x := range []struct {
		name string
		f    floor.Floor
		want []int
	}{
		{"example 2", barn(), list(0)},
		{"example 4", barn(rule(0, 2)), nil},
		{"just about borne", tight, nil},
		{"the other bay", other, list(1)},
		{"both bays", both, list(0, 1)},
		{"at first", gate(79, 20, list(-20)), list(0)},
		{"at first just about", gate(80, 20, list(-20)), nil},
		{"no turnings", gate(79, 20, nil), list(0)},
	} {
		if got, e := floor.Risk(x.f); !slices.Equal(got, x.want) || e != api.OK {
			t.Error(x.name, "has at risk", got, e, "and should have", x.want)
		}
	}
	searched(t, func(r *rand.Rand, f floor.Floor, k known) {
		var want []int
		for bay, n := range f.Bears {
			if k.most[bay] > n {
				want = append(want, bay)
			}
		}
		if got, e := floor.Risk(f); !slices.Equal(got, want) || e != api.OK {
			t.Error(f, "has at risk", got, e, "and should have", want)
		}
	})
}
