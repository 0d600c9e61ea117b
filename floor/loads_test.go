package floor_test

import (
	"math"
	"math/rand/v2"
	"slices"
	"testing"

	"staddle/api"
	"staddle/floor"
)

func TestOrdersOfTheExamples(t *testing.T) {
	low := barn()
	low.Bears = list(290, 199)
	lower := barn()
	lower.Bears = list(400, 199)
	even := floor.Floor{Bears: list(10, 9), Bins: []floor.Bin{bin(4, 2, 2), bin(0, 2, 2)}, Turnings: []floor.Turning{move(0, 1, 2), move(floor.Outside, 0, 1), move(0, 1, 2)}}
	for _, x := range []struct {
		name      string
		f         floor.Floor
		order     []int
		loads     [][]int
		margin    int
		time, bay int
	}{
		{"0 1 2", barn(), list(0, 1, 2), [][]int{{300, 60}, {220, 140}, {160, 200}, {320, 200}}, 80, 0, 0},
		{"0 2 1", barn(), list(0, 2, 1), [][]int{{300, 60}, {220, 140}, {380, 140}, {320, 200}}, 20, 0, 0},
		{"1 2 0", barn(), list(1, 2, 0), [][]int{{300, 60}, {240, 120}, {400, 120}, {320, 200}}, 0, 0, 0},
		{"2 0 1", barn(), list(2, 0, 1), [][]int{{300, 60}, {460, 60}, {380, 140}, {320, 200}}, -60, 1, 0},
		{"2 1 0", barn(rule(2, 0), rule(2, 1)), list(2, 1, 0), [][]int{{300, 60}, {460, 60}, {400, 120}, {320, 200}}, -60, 1, 0},
		{"overloaded at first", low, list(0, 1, 2), [][]int{{300, 60}, {220, 140}, {160, 200}, {320, 200}}, -30, 0, 0},
		{"overloaded on the second bay", lower, list(0, 1, 2), [][]int{{300, 60}, {220, 140}, {160, 200}, {320, 200}}, -1, 2, 1},
		{"turnings that move no load", even, list(0, 1, 2), [][]int{{8, 8}, {8, 8}, {10, 10}, {10, 10}}, -1, 2, 1},
		{"no turnings", gate(90, 20, nil), nil, [][]int{{80}}, 10, 0, 0},
		{"no turnings, and too much", gate(79, 20, nil), nil, [][]int{{80}}, -1, 0, 0},
		{"no bins", floor.Floor{Bears: list(7, 0, 5)}, nil, [][]int{{0, 0, 0}}, 0, 0, 0},
	} {
		want := api.OK
		if x.margin >= 0 {
			want = api.ErrNone
		}
		loads, e := floor.Loads(x.f, x.order)
		is, f := floor.Keeps(x.f, x.order)
		time, bay, g := floor.Breaks(x.f, x.order)
		margin, h := floor.Margin(x.f, x.order)
		if !sameLoads(loads, x.loads) || e != api.OK || is != (x.margin >= 0) || f != api.OK || margin != x.margin || h != api.OK {
			t.Error(x.name, "has", loads, e, "keeps:", is, f, "and has the margin", margin, h)
		}
		if time != x.time || bay != x.bay || g != want {
			t.Error(x.name, "breaks at time", time, "bay", bay, g, "and should at", x.time, x.bay, want)
		}
	}
}

func TestAnyOrders(t *testing.T) {
	kept, late, other := 0, 0, 0
	for _, make := range kinds() {
		trials(t, 500, make, func(r *rand.Rand, f floor.Floor) {
			order := someOrder(r, f)
			want := loadsOf(f, order)
			wantTime, wantBay, breaks := brokenOf(f, want)
			loads, e := floor.Loads(f, order)
			is, g := floor.Keeps(f, order)
			time, bay, h := floor.Breaks(f, order)
			margin, i := floor.Margin(f, order)
			if !sameLoads(loads, want) || e != api.OK || margin != marginOf(f, want) || i != api.OK {
				t.Error(f, order, "has", loads, e, margin, i, "and should have", want, marginOf(f, want))
			}
			if is == breaks || g != api.OK || time != wantTime || bay != wantBay || (h == api.OK) != breaks || h != api.OK && h != api.ErrNone {
				t.Error(f, order, "keeps:", is, g, "breaks at", time, bay, h, "and should at", wantTime, wantBay, breaks)
			}
			switch {
			case !breaks:
				kept++
			case bay > 0:
				other++
			case time > 0:
				late++
			}
		})
	}
	if kept < 100 || late < 100 || other < 50 {
		t.Error("just", kept, "orders keep,", late, "break later, and", other, "break on another bay")
	}
}

func TestErrorsOfOrders(t *testing.T) {
	ruled := barn(rule(0, 1), rule(1, 2))
	for _, x := range []struct {
		name  string
		f     floor.Floor
		order []int
		want  api.Errno
	}{
		{"all in order", ruled, list(0, 1, 2), api.OK},
		{"one too few", ruled, list(0, 1), api.ErrMany},
		{"none", ruled, nil, api.ErrMany},
		{"one too many", ruled, list(0, 1, 2, 0), api.ErrMany},
		{"one too many, that there is not", ruled, list(0, 1, 2, 3), api.ErrMany},
		{"one of none", gate(90, 20, nil), list(0), api.ErrMany},
		{"one that there is not", ruled, list(0, 1, 3), api.ErrNot},
		{"one before the first", ruled, list(-1, 1, 2), api.ErrNot},
		{"the greatest and the least of all", ruled, list(math.MaxInt, math.MinInt, 1), api.ErrNot},
		{"one twice, and one that there is not", ruled, list(1, 1, 3), api.ErrNot},
		{"one too early, and one that there is not", ruled, list(2, 0, 3), api.ErrNot},
		{"one twice", ruled, list(0, 1, 1), api.ErrTwice},
		{"one too early, and twice", ruled, list(2, 2, 0), api.ErrTwice},
		{"one too early, and another one twice", ruled, list(1, 0, 0), api.ErrTwice},
		{"one before the one ahead of it", ruled, list(1, 0, 2), api.ErrOrder},
		{"the last one before one in the middle", ruled, list(0, 2, 1), api.ErrOrder},
		{"all the other way round", ruled, list(2, 1, 0), api.ErrOrder},
		{"one before another one that is ahead by two rules", gate(90, 20, list(1, 1, 1), rule(0, 1), rule(1, 2)), list(2, 0, 1), api.ErrOrder},
		{"the other way round, without rules", barn(), list(2, 1, 0), api.OK},
	} {
		loads, e := floor.Loads(x.f, x.order)
		is, f := floor.Keeps(x.f, x.order)
		time, bay, g := floor.Breaks(x.f, x.order)
		margin, h := floor.Margin(x.f, x.order)
		if x.want == api.OK {
			if e != api.OK || f != api.OK || g != api.OK && g != api.ErrNone || h != api.OK {
				t.Error(x.name, "has errors", e, f, g, h)
			}
			continue
		}
		if len(loads) > 0 || is || time != 0 || bay != 0 || margin != 0 {
			t.Error(x.name, "has", loads, is, time, bay, margin)
		}
		if n := x.want; e != n || f != n || g != n || h != n {
			t.Error(x.name, "has errors", e, f, g, h, "and should have", n)
		}
	}
}

// TestOrdersAreAskedAsTheRulesSay compares with all lists of turnings.
func TestOrdersAreAskedAsTheRulesSay(t *testing.T) {
	for _, make := range kinds() {
		trials(t, 60, make, func(r *rand.Rand, f floor.Floor) {
			if len(f.Turnings) > 5 {
				return
			}
			permutations(len(f.Turnings), func(order []int) {
				want := api.OK
				if !isAllowed(f, order) {
					want = api.ErrOrder
				}
				if _, e := floor.Keeps(f, slices.Clone(order)); e != want {
					t.Error(f, order, "has error", e, "and should have", want)
				}
			})
		})
	}
}
