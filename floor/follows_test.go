package floor_test

import (
	"math/rand/v2"
	"slices"
	"testing"

	"staddle/api"
	"staddle/floor"
)

// TestFloorsBearOrAnOrderIsShown goes by what the functions say of one another.
func TestFloorsBearOrAnOrderIsShown(t *testing.T) {
	risky, safe := 0, 0
	for _, make := range kinds() {
		trials(t, 500, make, func(r *rand.Rand, f floor.Floor) {
			risk, e := floor.Risk(f)
			if e != api.OK {
				t.Fatal(f, "has error", e)
			}
			for bay, bears := range f.Bears {
				most, _ := floor.Most(f, bay)
				order, _ := floor.Worst(f, bay)
				kept, g := floor.Keeps(f, order)
				if slices.Contains(risk, bay) != (most > bears) || g != api.OK || most > bears && kept {
					t.Error(f, bay, "bears at most", most, "at risk:", risk, "and kept by", order, kept, g)
				}
				set, _ := floor.Heaviest(f, bay)
				pays, _ := floor.Payments(f, bay)
				bound, h := floor.Bounds(f, bay, pays)
				if h != api.OK || bound != most || !isWhole(f, set) || loadsOf(f, set)[len(set)][bay] != most {
					t.Error(f, bay, "bears", most, "after", set, "and is bounded by", bound, h, "with", pays)
				}
			}
			if len(risk) > 0 {
				risky++
				return
			}
			safe++
			for range 5 {
				order := someOrder(r, f)
				if is, e := floor.Keeps(f, order); !is || e != api.OK {
					t.Error(f, "is not kept by", order, is, e, "but has no bay at risk")
				}
			}
		})
	}
	if risky < 200 || safe < 200 {
		t.Error("just", risky, "floors are at risk, and", safe, "are not")
	}
}

func TestAllOrdersKeepIfNoBayIsAtRisk(t *testing.T) {
	searched(t, func(r *rand.Rand, f floor.Floor, k known) {
		risk, _ := floor.Risk(f)
		if n, e := floor.Count(f); e != api.OK || (len(risk) == 0) != (n == k.orders) {
			t.Error(f, "has at risk", risk, "but", n, "of", k.orders, "orders keep")
		}
	})
}

func TestCountIsGreaterThanZeroJustIfAnOrderKeeps(t *testing.T) {
	for _, make := range kinds() {
		trials(t, 500, make, func(r *rand.Rand, f floor.Floor) {
			n, e := floor.Count(f)
			order, g := floor.Safe(f)
			_, margin, h := floor.Safest(f)
			if e != api.OK || h != api.OK || (n > 0) != (g == api.OK) || (n > 0) != (margin >= 0) {
				t.Error(f, "is kept by", n, e, "orders, first by", order, g, "and the best one has", margin, h)
			}
			if is, i := floor.Keeps(f, order); g == api.OK && (!is || i != api.OK) {
				t.Error(f, "is not kept by", order, i)
			}
			if m, i := floor.Margin(f, order); g == api.OK && (m < 0 || m > margin || i != api.OK) {
				t.Error(f, "has by", order, "the margin", m, i, "and by the best one", margin)
			}
		})
	}
}

func TestOneRuleMoreNeverLetsMore(t *testing.T) {
	lighter, fewer := 0, 0
	for _, make := range kinds() {
		trials(t, 500, make, func(r *rand.Rand, f floor.Floor) {
			if len(f.Turnings) < 2 {
				return
			}
			ruled, e := floor.Wait(f, rule(r.IntN(len(f.Turnings)), r.IntN(len(f.Turnings))))
			if e == api.ErrClash {
				return
			}
			n, _ := floor.Count(f)
			m, g := floor.Count(ruled)
			if e != api.OK || g != api.OK || m > n {
				t.Error(f, "is kept by", n, "orders, and with one rule more by", m, e, g)
			}
			if m < n {
				fewer++
			}
			for bay := range f.Bears {
				n, _ := floor.Most(f, bay)
				m, e := floor.Most(ruled, bay)
				if e != api.OK || m > n {
					t.Error(f, bay, "bears", n, "and with one rule more", m, e)
				}
				if m < n {
					lighter++
				}
			}
		})
	}
	if lighter < 50 || fewer < 50 {
		t.Error("a rule lessens the most just", lighter, "times, and the orders", fewer, "times")
	}
}

func TestWhatIsAheadMustComeFirst(t *testing.T) {
	asked := 0
	for _, make := range kinds() {
		trials(t, 500, make, func(r *rand.Rand, f floor.Floor) {
			if _, e := floor.Safe(f); e != api.OK {
				return
			}
			for k := range f.Turnings {
				ahead, _ := floor.Ahead(f, k)
				for _, a := range ahead {
					is, e := floor.Must(f, a, k)
					back, g := floor.Must(f, k, a)
					if !is || e != api.OK || back || g != api.OK {
						t.Error(f, a, "is ahead of", k, "but must come first:", is, e, "and the other way round:", back, g)
					}
					asked++
				}
			}
		})
	}
	if asked < 200 {
		t.Error("just", asked, "turnings are ahead of others")
	}
}

func TestPaymentsNeverBoundLessThanMost(t *testing.T) {
	held := 0
	for _, make := range kinds() {
		trials(t, 500, make, func(r *rand.Rand, f floor.Floor) {
			bay := r.IntN(len(f.Bears))
			most, _ := floor.Most(f, bay)
			all := somePays(r, f)
			for len(all) > 0 {
				if n, e := floor.Bounds(f, bay, all); e == api.OK {
					held++
					if n < most {
						t.Error(f, bay, all, "bound", n, "but it bears", most)
					}
				}
				all = all[1:]
			}
		})
	}
	if held < 100 {
		t.Error("just", held, "payments hold")
	}
}
