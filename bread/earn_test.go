package bread_test

import (
	"math"
	"math/rand/v2"
	"testing"

	"staddle/api"
	"staddle/bread"
)

func TestEarns(t *testing.T) {
	wet := but(func(t *bread.Town) { t.Run = 0 })
	for _, x := range []struct {
		name  string
		w     bread.Town
		years int
		n     int
		e     api.Errno
	}{
		{"no years", mill(8), 0, 0, api.OK}, {"a year", mill(8), 1, 40, api.OK}, {"example 4", mill(8), 2, 80, api.OK}, {"example 4", mill(8), 3, 104, api.OK}, {"four years", mill(8), 4, 144, api.OK}, {"five years", mill(8), 5, 176, api.OK}, {"six years", mill(8), 6, 0, api.ErrNone},
		{"no years of nothing", mill(0), 0, 0, api.OK}, {"a year of nothing", mill(0), 1, 0, api.ErrNone}, {"a year of 2 sacks", mill(2), 1, 32, api.OK}, {"two years of 2 sacks", mill(2), 2, 0, api.ErrNone}, {"a year after a short ration", at(mill(0), state(3, 1, 0)), 1, 0, api.ErrNone},
		{"12 years without bad harvests", wet, 12, 480, api.OK}, {"13 years", wet, 13, 0, api.ErrRange}, {"-1 years", wet, -1, 0, api.ErrRange}, {"the most years of all", wet, math.MaxInt, 0, api.ErrRange}, {"the least of all", wet, math.MinInt, 0, api.ErrRange},
		{"a hut", hut(2, 3, 2, 0), 2, 10, api.OK}, {"a hut, for longer", hut(2, 3, 2, 0), 3, 0, api.ErrNone}, {"a hut that lasts", hut(2, 1, 2, 0), 12, 60, api.OK},
		{"a price of nothing", bread.Town{Rations: []bread.Ration{sold(0, 0)}}, 12, 0, api.OK}, {"a ration of nothing", bread.Town{Rations: []bread.Ration{sold(0, 100)}}, 12, 0, api.OK},
		{"the most of all", bread.Town{Now: state(30, 0, 0), Holds: 30, Run: 3, Good: 30, Bad: 30, Rations: []bread.Ration{sold(30, 100)}}, 12, 36000, api.OK},
		// The short ration earns more, but not twice in a row.
		{"patience", but(func(t *bread.Town) { t.Run = 0; t.Rations[1].Price = 30 }), 3, 160, api.OK},
		// With 3 sacks two of them are sold in the last year, and none in the third one, after which there are not enough otherwise.
		{"the last year", bread.Town{Now: state(4, 0, 0), Holds: 5, Need: 3, Patience: 1, Good: 3, Bad: 3, Rot: 4, Rations: []bread.Ration{sold(4, 6), sold(2, 12), sold(0, 14)}}, 5, 96, api.OK},
	} {
		if n, e := bread.Earns(x.w, x.years); n != x.n || e != x.e {
			t.Error(x.name, "earns", n, e, "and should earn", x.n, x.e)
		}
	}
}

// none is less than any sum.
const none = math.MinInt / 2

// earned says what is earned for certain from each state on in so many years, or none if it is not certain that a ration is
// allowed in each of them: year by year, the last one first.
func earned(w bread.Town, years int) map[bread.State]int {
	sums := map[bread.State]int{}
	for range years {
		before := map[bread.State]int{}
		for _, s := range allStates(w) {
			most := none
			for _, k := range canSell(w, s) {
				sum := sums[after(w, s, k, false)]
				if canBeBad(w, s) {
					sum = min(sum, sums[after(w, s, k, true)])
				}
				if sum >= 0 {
					most = max(most, sum+w.Rations[k].Sacks*w.Rations[k].Price)
				}
			}
			before[s] = most
		}
		sums = before
	}
	return sums
}

// TestEarnsYearByYear compares with all states.
func TestEarnsYearByYear(t *testing.T) {
	errors := map[api.Errno]int{}
	long := 0
	trials(t, 200, func(r *rand.Rand, w bread.Town) {
		years := r.IntN(bread.MaxYears + 1)
		want, e := earned(w, years)[w.Now], api.OK
		if want == none {
			want, e = 0, api.ErrNone
		}
		if n, f := bread.Earns(w, years); n != want || f != e {
			t.Error(w, "earns", n, f, "in", years, "years, and should earn", want, e)
		}
		if errors[e]++; e == api.OK && years > 8 {
			long++
		}
	})
	if errors[api.OK] < 200 || errors[api.ErrNone] < 100 || long < 50 {
		t.Error("the errors are", errors, "and", long, "earn something for long")
	}
}

// surely says what a town earns at least if it is certain, by playing all harvests, and all rations one after the other.
func surely(w bread.Town, s bread.State, years int) int {
	if years == 0 {
		return 0
	}
	most := none
	for _, k := range canSell(w, s) {
		worst := surely(w, after(w, s, k, false), years-1)
		if canBeBad(w, s) {
			worst = min(worst, surely(w, after(w, s, k, true), years-1))
		}
		most = max(most, worst+w.Rations[k].Sacks*w.Rations[k].Price)
	}
	return most
}

func TestEarnsByPlay(t *testing.T) {
	differ := 0
	trials(t, 200, func(r *rand.Rand, w bread.Town) {
		years := r.IntN(6)
		n, e := bread.Earns(w, years)
		want := surely(w, w.Now, years)
		if (e == api.OK) != (want >= 0) || e == api.OK && n != want || e != api.OK && (e != api.ErrNone || n != 0) {
			t.Error(w, "earns", n, e, "in", years, "years, and should earn", want)
		}
		if can := canSell(w, w.Now); len(can) > 1 && e == api.OK {
			differ++
		}
	})
	if differ < 50 {
		t.Error("just", differ, "could choose")
	}
}
