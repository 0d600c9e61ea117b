package bread_test

import (
	"math/rand/v2"
	"slices"
	"testing"

	"staddle/api"
	"staddle/bread"
)

// TestTheTownIsFedForAsLongAsTheGrainCanLast compares what is shown from both sides.
func TestTheTownIsFedForAsLongAsTheGrainCanLast(t *testing.T) {
	var classes [4]int
	trials(t, 300, func(r *rand.Rand, w bread.Town) {
		n, _ := bread.Lasts(w)
		table, e := bread.Table(w)
		all, f := bread.Fates(w)
		fed, g := bread.Feeds(w, table)
		starved, h := bread.Starves(w, all)
		if n != never && (e != api.OK || g != api.OK || fed != n) || n != ever && (f != api.OK || h != api.OK || starved != n+1) {
			t.Error(w, "lasts", n, "and its table shows", fed, e, g, "and its fates", starved, f, h)
		}
		classes[class(n)]++
	})
	if !isMixed(classes, 80) {
		t.Error("so many of each class:", classes)
	}
}

func TestNoTableShowsMoreAndNoFatesAsFew(t *testing.T) {
	held, less, more := 0, 0, 0
	trials(t, 400, func(r *rand.Rand, w bread.Town) {
		n, _ := bread.Lasts(w)
		if fed, e := bread.Feeds(w, someTable(r, w)); e == api.OK {
			if held++; fed > n {
				t.Error(w, "lasts", n, "and a table shows", fed)
			}
			if fed < n {
				less++
			}
		}
		if starved, e := bread.Starves(w, someFates(r, w)); e == api.OK {
			if held++; starved <= n {
				t.Error(w, "lasts", n, "and fates show", starved)
			}
			if starved > n+1 {
				more++
			}
		}
	})
	if held < 500 || less < 100 || more < 50 {
		t.Error("just", held, "hold,", less, "show less, and", more, "more")
	}
}

// lastsIn is how long a state lasts.
func lastsIn(t *testing.T, w bread.Town, s bread.State) int {
	t.Helper()
	n, e := bread.From(w, s)
	if e != api.OK {
		t.Fatal(w, s, "has error", e)
	}
	return n
}

func TestWithMoreStockOrDryYearsAStateLastsNoFewer(t *testing.T) {
	longer := [2]int{}
	trials(t, 100, func(r *rand.Rand, w bread.Town) {
		for range 10 {
			s := someState(r, w)
			n := lastsIn(t, w, s)
			for i, next := range states(state(s.Stock+1, s.Short, s.Dry), state(s.Stock, s.Short, s.Dry+1)) {
				if !isState(w, next) {
					continue
				}
				m := lastsIn(t, w, next)
				if m < n {
					t.Error(w, s, "lasts", n, "and", next, m)
				}
				if m > n {
					longer[i]++
				}
			}
		}
	})
	if slices.Min(longer[:]) < 100 {
		t.Error("so many last longer:", longer)
	}
}

func TestABetterTownLastsNoFewer(t *testing.T) {
	longer := [3]int{}
	trials(t, 500, func(r *rand.Rand, w bread.Town) {
		n := lastsIn(t, w, w.Now)
		for i, change := range []func(t *bread.Town){
			func(t *bread.Town) { t.Patience++ },
			func(t *bread.Town) { t.Run-- },
			func(t *bread.Town) { t.Bad++ },
		} {
			better := copyTown(w)
			change(&better)
			if bread.Check(better) != api.OK {
				continue
			}
			m := lastsIn(t, better, w.Now)
			if m < n {
				t.Error(w, "lasts", n, "and", better, m)
			}
			if m > n {
				longer[i]++
			}
		}
	})
	if slices.Min(longer[:]) < 50 {
		t.Error("so many last longer:", longer)
	}
}

func TestAfterAChosenRationTheTownLastsAsLong(t *testing.T) {
	dry, not := 0, 0
	trials(t, 300, func(r *rand.Rand, w bread.Town) {
		n := lastsIn(t, w, w.Now)
		can, _ := bread.Choose(w)
		for _, k := range canSell(w, w.Now) {
			good, e := bread.Year(w, k, false)
			bad, f := bread.Year(w, k, true)
			if e != api.OK || (f == api.OK) != canBeBad(w, w.Now) {
				t.Fatal("in", w, "ration", k, "has error", e, f)
			}
			least := lastsIn(t, good, good.Now)
			if f == api.OK && n > 0 {
				least = min(least, lastsIn(t, bad, bad.Now)+1)
				dry++
			}
			if is := n != never && least >= n; is != slices.Contains(can, k) {
				t.Error(w, "lasts", n, "and after ration", k, "at least", least, "; the chosen ones are", can)
			}
			if least < n {
				not++
			}
		}
	})
	if dry < 200 || not < 30 {
		t.Error("so many can have a bad harvest:", dry, "and so many are not chosen:", not)
	}
}

func TestABakerWhoWantsMoreGetsNoLess(t *testing.T) {
	r := rand.New(rand.NewPCG(4, 4))
	gets := map[bool]int{}
	for range 2000 {
		var wants []int
		for range 1 + r.IntN(8) {
			wants = append(wants, r.IntN(30))
		}
		sacks := r.IntN(200)
		before, e := bread.Share(sacks, wants)
		baker := r.IntN(len(wants))
		wants[baker] += 1 + r.IntN(5)
		after, f := bread.Share(sacks, wants)
		if e != api.OK || f != api.OK || after[baker] < before[baker] {
			t.Error("baker", baker, "who wants", wants[baker], "gets", after, "of", sacks, "and got", before, e, f)
		}
		gets[after[baker] > before[baker]]++
	}
	if gets[true] < 200 || gets[false] < 200 {
		t.Error("so many get more:", gets)
	}
}
