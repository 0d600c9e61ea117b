package floor_test

import (
	"math"
	"math/rand/v2"
	"testing"

	"staddle/api"
	"staddle/floor"
)

func TestBounds(t *testing.T) {
	ruled := barn(rule(0, 2))
	rows := gate(90, 20, list(-5, -4, 6, 7), rule(0, 1), rule(1, 2), rule(0, 3))
	for _, x := range []struct {
		name string
		f    floor.Floor
		bay  int
		pays []floor.Pay
		want int
		e    api.Errno
	}{
		{"example 4", ruled, 0, pays(pay(2, 0, 80)), 380, api.OK},
		{"in two parts", ruled, 0, pays(pay(2, 0, 30), pay(2, 0, 50)), 380, api.OK},
		{"the least payment", ruled, 0, pays(pay(2, 0, 1)), 459, api.OK},
		{"no payments", ruled, 0, nil, 460, api.OK},
		{"no payments for the other bay", ruled, 1, nil, 200, api.OK},
		{"a turning that is ahead by two rules", rows, 0, pays(pay(2, 0, 20)), 112, api.OK},
		{"two that pay for one", rows, 0, pays(pay(2, 0, 8), pay(2, 1, 16)), 108, api.OK},
		{"one that pays for two", rows, 0, pays(pay(2, 0, 8), pay(3, 0, 12)), 112, api.OK},
		{"more than it lessens", ruled, 0, pays(pay(2, 0, 81)), 0, api.ErrWrong},
		{"more than it lessens in two parts", ruled, 0, pays(pay(2, 0, 50), pay(2, 0, 31)), 0, api.ErrWrong},
		{"more than it lessens for two", rows, 0, pays(pay(2, 0, 10), pay(3, 0, 11)), 0, api.ErrWrong},
		{"more than it adds", gate(90, 20, list(-9, 2), rule(0, 1)), 0, pays(pay(1, 0, 9)), 0, api.ErrWrong},
		{"just what it adds", gate(90, 20, list(-9, 2), rule(0, 1)), 0, pays(pay(1, 0, 8)), 80, api.OK},
		{"more than it adds by two", gate(90, 20, list(-2, -2, 2), rule(0, 2), rule(1, 2)), 0, pays(pay(2, 0, 4), pay(2, 1, 5)), 0, api.ErrWrong},
		{"on a bay where it adds itself", ruled, 1, pays(pay(2, 0, 1)), 0, api.ErrWrong},
		{"for one that adds nothing", gate(90, 20, list(-2, -2), rule(0, 1)), 0, pays(pay(1, 0, 1)), 0, api.ErrWrong},
		{"by one that lessens nothing", gate(90, 20, list(2, 2), rule(0, 1)), 0, pays(pay(1, 0, 1)), 0, api.ErrWrong},
		{"the most of all twice", ruled, 0, pays(pay(2, 0, math.MaxInt), pay(2, 0, math.MaxInt)), 0, api.ErrWrong},
		{"the most of all, and what makes it little again", ruled, 0, pays(pay(2, 0, math.MaxInt), pay(2, 0, math.MaxInt), pay(2, 0, 3)), 0, api.ErrWrong},
		{"by one that is not ahead", ruled, 0, pays(pay(2, 1, 1)), 0, api.ErrOrder},
		{"by one that is behind", ruled, 0, pays(pay(0, 2, 1)), 0, api.ErrOrder},
		{"by itself", ruled, 0, pays(pay(2, 2, 1)), 0, api.ErrOrder},
		{"by one that is not ahead, after too much", ruled, 0, pays(pay(2, 0, 81), pay(2, 1, 1)), 0, api.ErrOrder},
		{"nothing", ruled, 0, pays(pay(2, 0, 0)), 0, api.ErrRange},
		{"less than nothing", ruled, 0, pays(pay(2, 0, -1)), 0, api.ErrRange},
		{"the least of all", ruled, 0, pays(pay(2, 0, math.MinInt)), 0, api.ErrRange},
		{"nothing, after one that is not ahead", ruled, 0, pays(pay(2, 1, 1), pay(2, 0, 0)), 0, api.ErrRange},
		{"by one that there is not", ruled, 0, pays(pay(2, 3, 1)), 0, api.ErrNot},
		{"for one that there is not", ruled, 0, pays(pay(3, 0, 1)), 0, api.ErrNot},
		{"by one before the first", ruled, 0, pays(pay(2, -1, 1)), 0, api.ErrNot},
		{"for one before the first", ruled, 0, pays(pay(-1, 1, 0)), 0, api.ErrNot},
		{"by one that there is not, after nothing by one not ahead", ruled, 0, pays(pay(2, 1, 0), pay(2, 3, 1)), 0, api.ErrNot},
		{"for a bay that there is not", ruled, 2, pays(pay(2, 0, 80)), 0, api.ErrNot},
		{"nothing for a bay that there is not", ruled, -1, pays(pay(2, 0, 0)), 0, api.ErrNot},
	} {
		if n, e := floor.Bounds(x.f, x.bay, x.pays); n != x.want || e != x.e {
			t.Error(x.name, "bound", n, e, "and should bound", x.want, x.e)
		}
	}
}

func TestBoundsOfAnyPayments(t *testing.T) {
	held, wrong := 0, 0
	for _, make := range kinds() {
		trials(t, 500, make, func(r *rand.Rand, f floor.Floor) {
			bay := r.IntN(len(f.Bears))
			all := somePays(r, f)
			bound, holds := holding(f, bay, all)
			want := api.OK
			if !holds {
				bound, want = 0, api.ErrWrong
			}
			if n, e := floor.Bounds(f, bay, all); n != bound || e != want {
				t.Error(f, bay, all, "bound", n, e, "and should bound", bound, want)
			}
			switch {
			case holds && len(all) > 0:
				held++
			case !holds:
				wrong++
			}
		})
	}
	if held < 100 || wrong < 100 {
		t.Error("just", held, "payments hold, and", wrong, "do not")
	}
}
