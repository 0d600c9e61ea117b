package bread_test

import (
	"math"
	"math/rand/v2"
	"slices"
	"testing"

	"staddle/api"
	"staddle/bread"
)

func TestLastsAndChoose(t *testing.T) {
	for _, x := range []struct {
		name   string
		w      bread.Town
		lasts  int
		choose []int
		e      api.Errno
	}{
		{"the example", mill(8), 3, list(1), api.OK}, {"12 sacks", mill(12), 5, list(0, 1), api.OK}, {"6 sacks", mill(6), 1, list(0, 1), api.OK},
		{"2 sacks", mill(2), 0, list(1), api.OK}, {"1 sack", mill(1), never, nil, api.ErrNone}, {"nothing", mill(0), never, nil, api.ErrNone},
		{"after a bad harvest", at(mill(0), state(8, 0, 1)), 4, list(1), api.OK}, {"after two bad harvests", at(mill(0), state(8, 0, 2)), 5, list(1), api.OK},
		{"after a short ration", at(mill(0), state(8, 1, 0)), 1, list(0), api.OK}, {"after a short ration, and bad harvests", at(mill(0), state(2, 1, 2)), never, nil, api.ErrNone},
		{"after bad harvests", at(mill(0), state(2, 0, 2)), 1, list(1), api.OK},
		{"a ration of nothing, for three years", but(func(t *bread.Town) { t.Rations = append(t.Rations, sold(0, 17)); t.Patience = 3 }), ever, list(0, 1, 2), api.OK},
		{"no bad harvests", hut(1, 0, 1, 0), ever, list(0), api.OK}, {"a bad harvest now and then", hut(1, 1, 2, 0), 0, list(0), api.OK}, {"a bad harvest now and then, and enough for it", hut(2, 1, 2, 0), ever, list(0), api.OK},
		{"a bad harvest now and then, and never more", hut(2, 1, 1, 0), 1, list(0), api.OK}, {"three bad harvests", hut(2, 3, 2, 0), 1, list(0), api.OK},
		{"nothing now, and enough later", hut(0, 3, 2, 2), never, nil, api.ErrNone}, {"bad harvests that are enough", hut(1, 3, 2, 1), ever, list(0), api.OK}, {"no harvests", hut(2, 3, 0, 0), never, nil, api.ErrNone},
		{"nothing is needed", bread.Town{Rations: []bread.Ration{sold(0, 0)}}, ever, list(0), api.OK},
		{"nothing is needed, but must be sold", bread.Town{Rations: []bread.Ration{sold(1, 0)}}, never, nil, api.ErrNone},
		{"always short", bread.Town{Need: 1, Patience: 3, Rations: []bread.Ration{sold(0, 0)}}, never, nil, api.ErrNone},
	} {
		lasts, e := bread.Lasts(x.w)
		from, f := bread.From(at(x.w, state(0, 0, 0)), x.w.Now)
		if lasts != x.lasts || from != x.lasts || e != api.OK || f != api.OK {
			t.Error(x.name, "lasts", lasts, from, e, f, "and should last", x.lasts)
		}
		if got, e := bread.Choose(x.w); !slices.Equal(got, x.choose) || e != x.e {
			t.Error(x.name, ":", got, "are chosen", e, "and should be", x.choose, x.e)
		}
	}
}

func TestFromOtherStates(t *testing.T) {
	for _, x := range []struct {
		w bread.Town
		s bread.State
		e api.Errno
	}{
		{mill(0), state(12, 1, 2), api.OK}, {mill(0), state(13, 0, 0), api.ErrRange}, {mill(0), state(-1, 0, 0), api.ErrRange}, {mill(0), state(0, 2, 0), api.ErrRange}, {mill(0), state(0, -1, 0), api.ErrRange},
		{mill(0), state(0, 0, 3), api.ErrRange}, {mill(0), state(0, 0, -1), api.ErrRange}, {mill(0), state(math.MaxInt, math.MinInt, 0), api.ErrRange},
		{mill(13), state(0, 0, 0), api.ErrRange}, {but(func(t *bread.Town) { t.Bad = 7 }), state(13, 0, 0), api.ErrOrder}, {bread.Town{}, state(0, 0, 0), api.ErrMany},
	} {
		if n, e := bread.From(x.w, x.s); e != x.e || e != api.OK && n != 0 {
			t.Error(x.s, "lasts", n, e, "and should have error", x.e)
		}
	}
}

func TestNeeds(t *testing.T) {
	short := at(mill(0), state(0, 1, 0))
	for _, x := range []struct {
		name string
		w    bread.Town
		bads int
		want int
		e    api.Errno
	}{
		{"example 4", mill(8), 0, 2, api.OK}, {"example 4", mill(8), 1, 6, api.OK}, {"example 4", mill(0), 2, 8, api.OK}, {"example 4", mill(12), 3, 8, api.OK},
		{"example 4", mill(8), 4, 12, api.OK}, {"example 4", mill(8), 5, 12, api.OK}, {"example 4", mill(8), 6, 0, api.ErrNone},
		{"after a short ration", short, 0, 4, api.OK}, {"after a short ration", short, 1, 6, api.OK}, {"after a short ration", short, 2, 10, api.OK}, {"after two bad harvests", at(mill(0), state(0, 0, 2)), 1, 2, api.OK},
		{"ever", mill(8), ever, 0, api.ErrNone}, {"nearly ever", mill(8), ever - 1, 0, api.ErrNone}, {"more than ever", mill(8), ever + 1, 0, api.ErrRange}, {"less than nothing", mill(8), -1, 0, api.ErrRange},
		{"the greatest number of all", mill(8), math.MaxInt, 0, api.ErrRange}, {"the least one of all", mill(8), math.MinInt, 0, api.ErrRange},
		{"a hut, for ever", hut(0, 1, 2, 0), ever, 2, api.OK}, {"a hut, nearly for ever", hut(0, 1, 2, 0), ever - 1, 2, api.OK}, {"a hut", hut(0, 1, 2, 0), 0, 1, api.OK}, {"a hut without harvests", hut(0, 3, 0, 0), 0, 0, api.ErrNone},
		{"nothing is needed", bread.Town{Rations: []bread.Ration{sold(0, 0)}}, ever, 0, api.OK},
	} {
		if n, e := bread.Needs(x.w, x.bads); n != x.want || e != x.e {
			t.Error(x.name, "for", x.bads, "needs", n, e, "and should need", x.want, x.e)
		}
	}
}

// chosen are the rations after each of which the town lasts as long, by the words of the chapter.
func chosen(w bread.Town, lasts map[bread.State]int) []int {
	n := lasts[w.Now]
	var all []int
	for _, k := range canSell(w, w.Now) {
		good := lasts[after(w, w.Now, k, false)]
		is := n >= 0 && good >= n
		if is && n > 0 && canBeBad(w, w.Now) {
			bad := lasts[after(w, w.Now, k, true)]
			is = bad == ever || n != ever && bad >= n-1
		}
		if is {
			all = append(all, k)
		}
	}
	return all
}

// needed is the least stock with which a town lasts a number of bad harvests.
func needed(w bread.Town, lasts map[bread.State]int, bads int) (int, api.Errno) {
	for stock := 0; stock <= w.Holds; stock++ {
		if lasts[state(stock, w.Now.Short, w.Now.Dry)] >= bads {
			return stock, api.OK
		}
	}
	return 0, api.ErrNone
}

// askLasts compares how long all states of a town last, and what follows from it, with what the words of the chapter say.
func askLasts(t *testing.T, r *rand.Rand, w bread.Town) map[bread.State]int {
	t.Helper()
	lasts := lastsOf(w)
	if n, e := bread.Lasts(w); n != lasts[w.Now] || e != api.OK {
		t.Error(w, "lasts", n, e, "and should last", lasts[w.Now])
	}
	for range 12 {
		s := state(r.IntN(w.Holds+1), r.IntN(w.Patience+1), r.IntN(w.Run+1))
		if n, e := bread.From(w, s); n != lasts[s] || e != api.OK {
			t.Error("in", w, s, "lasts", n, e, "and should last", lasts[s])
		}
	}
	want := api.OK
	if lasts[w.Now] == never {
		want = api.ErrNone
	}
	if got, e := bread.Choose(w); !slices.Equal(got, chosen(w, lasts)) || e != want {
		t.Error("in", w, got, "are chosen", e, "and should be", chosen(w, lasts), want)
	}
	for _, bads := range list(0, 1, 2, 3, r.IntN(20), ever-1, ever) {
		stock, want := needed(w, lasts, bads)
		if n, e := bread.Needs(w, bads); n != stock || e != want {
			t.Error(w, "needs", n, e, "for", bads, "and should need", stock, want)
		}
	}
	return lasts
}

// TestLastsByTheWords takes state after state out of those that last, number by number.
func TestLastsByTheWords(t *testing.T) {
	var classes [4]int
	longest, fewer := 0, 0
	trials(t, 200, func(r *rand.Rand, w bread.Town) {
		lasts := askLasts(t, r, w)
		n := lasts[w.Now]
		if classes[class(n)]++; n != ever {
			longest = max(longest, n)
		}
		if n >= 0 && len(chosen(w, lasts)) < len(canSell(w, w.Now)) {
			fewer++
		}
	})
	if !isMixed(classes, 50) || longest < 20 || fewer < 25 {
		t.Error("so many of each class:", classes, "the longest lasts", longest, "and", fewer, "cannot choose all")
	}
}

// TestLastsForLong asks of towns that last more bad harvests than others.
func TestLastsForLong(t *testing.T) {
	r := rand.New(rand.NewPCG(1, 9))
	w := bread.Town{Now: state(30, 0, 0), Holds: 30, Need: 1, Patience: 3, Run: 2, Good: 2, Rations: []bread.Ration{sold(4, 8), sold(3, 17), sold(0, 22)}}
	if lasts := askLasts(t, r, w); lasts[w.Now] != 213 {
		t.Error(w, "lasts", lasts[w.Now])
	}
	w.Need, w.Patience, w.Run, w.Good, w.Rations = 4, 2, 3, 6, []bread.Ration{sold(12, 19), sold(7, 34), sold(5, 37), sold(0, 50)}
	if lasts := askLasts(t, r, w); lasts[w.Now] != 101 {
		t.Error(w, "lasts", lasts[w.Now])
	}
}

// canGoOn says whether a town finds rations for so many years, if no more than so many harvests are bad in them, by playing them
// all.
func canGoOn(w bread.Town, s bread.State, years, bads int) bool {
	if years == 0 {
		return true
	}
	return slices.ContainsFunc(canSell(w, s), func(k int) bool {
		is := canGoOn(w, after(w, s, k, false), years-1, bads)
		return is && (bads == 0 || !canBeBad(w, s) || canGoOn(w, after(w, s, k, true), years-1, bads-1))
	})
}

// TestLastsByPlay plays some years in all ways: a town that lasts a number finds rations in each of them, and one that does not
// last it finds none some time, in most towns soon.
func TestLastsByPlay(t *testing.T) {
	soon := 0
	trials(t, 60, func(r *rand.Rand, w bread.Town) {
		n, _ := bread.Lasts(w)
		if n >= 0 && !canGoOn(w, w.Now, 7, min(n, 7)) {
			t.Error(w, "lasts", n, "and does not")
		}
		if n < 3 && !canGoOn(w, w.Now, 7, n+1) {
			soon++
		}
	})
	if soon < 60 {
		t.Error("just", soon, "starve soon")
	}
}
