package bread_test

import (
	"math"
	"math/rand/v2"
	"slices"
	"testing"

	"staddle/api"
	"staddle/bread"
)

// leads is the index of an earlier fate to which a ration in the state of a fate leads by some harvest, with few enough bad ones,
// and whether this harvest is bad; it is -1 if there is none.
func leads(w bread.Town, all []bread.Fate, fate, ration int) (int, bool) {
	f := all[fate]
	for i, x := range all[:fate] {
		if x.State == after(w, f.State, ration, false) && x.Bads <= f.Bads {
			return i, false
		}
		if canBeBad(w, f.State) && x.State == after(w, f.State, ration, true) && x.Bads < f.Bads {
			return i, true
		}
	}
	return -1, false
}

// starved is what fates show, by the words of the chapter.
func starved(w bread.Town, all []bread.Fate) (int, api.Errno) {
	if len(all) > 496 {
		return 0, api.ErrMany
	}
	for _, f := range all {
		if !isState(w, f.State) || f.Bads < 0 || f.Bads > 1000000 {
			return 0, api.ErrRange
		}
	}
	least := math.MaxInt
	for i, f := range all {
		for _, k := range canSell(w, f.State) {
			if earlier, _ := leads(w, all, i, k); earlier < 0 {
				return 0, api.ErrWrong
			}
		}
		if f.State == w.Now {
			least = min(least, f.Bads)
		}
	}
	if least == math.MaxInt {
		return 0, api.ErrNone
	}
	return least, api.OK
}

// TestFates asks whether fates hold, by the words of the chapter and by Starves.
func TestFates(t *testing.T) {
	var classes [4]int
	trials(t, 200, func(r *rand.Rand, w bread.Town) {
		lasts, want := lastsOf(w)[w.Now], api.OK
		if lasts == ever {
			want = api.ErrNone
		}
		all, e := bread.Fates(w)
		if e != want || e != api.OK && len(all) > 0 || len(all) > bread.MaxRows {
			t.Error(w, "has fates", all, e, "and should have error", want)
		}
		classes[class(lasts)]++
		if e != api.OK {
			return
		}
		n, f := starved(w, all)
		m, g := bread.Starves(w, all)
		if n != lasts+1 || f != api.OK || m != lasts+1 || g != api.OK || !slices.Contains(all, fate(w.Now, lasts+1)) {
			t.Error(w, "lasts", lasts, "and its fates", all, "show", n, f, m, g)
		}
	})
	if !isMixed(classes, 50) {
		t.Error("so many of each class:", classes)
	}
}

// TestTheFatesStarveTheTown has harvests come by the fates, until no ration is allowed, whichever were sold.
func TestTheFatesStarveTheTown(t *testing.T) {
	bad := 0
	trials(t, 100, func(r *rand.Rand, w bread.Town) {
		all, e := bread.Fates(w)
		if e != api.OK {
			return
		}
		for range 5 {
			at := slices.IndexFunc(all, func(f bread.Fate) bool { return f.State == w.Now })
			left := all[at].Bads
			for s := w.Now; len(canSell(w, s)) > 0; s = all[at].State {
				can := canSell(w, s)
				earlier, is := leads(w, all, at, can[r.IntN(len(can))])
				if is {
					left--
					bad++
				}
				if earlier < 0 || left < 0 {
					t.Fatal("in", w, "the fates", all, "do not starve", s)
				}
				at = earlier
			}
		}
	})
	if bad < 500 {
		t.Error("just", bad, "harvests were bad")
	}
}

func TestStarves(t *testing.T) {
	w := hut(1, 1, 2, 0)
	low, late, none := w.Now, state(0, 0, 1), state(0, 0, 0)
	dry := state(1, 0, 1)
	poor := hut(2, 1, 1, 0)
	full := poor.Now
	many := func(n int, all ...bread.Fate) []bread.Fate {
		return append(slices.Repeat(fates(fate(none, 0)), n-len(all)), all...)
	}
	for _, x := range []struct {
		name  string
		w     bread.Town
		fates []bread.Fate
		n     int
		e     api.Errno
	}{
		{"a bad harvest", w, fates(fate(late, 0), fate(low, 1)), 1, api.OK}, {"a fate that leads nowhere", w, fates(fate(none, 0), fate(late, 0), fate(low, 1)), 1, api.OK}, {"more bad harvests than are needed", w, fates(fate(late, 0), fate(low, 9)), 9, api.OK},
		{"a fate twice, the least one later", w, fates(fate(late, 0), fate(low, 9), fate(low, 1)), 1, api.OK}, {"a fate twice, the least one earlier", w, fates(fate(late, 0), fate(low, 1), fate(low, 9)), 1, api.OK}, {"a fate three times", w, fates(fate(late, 0), fate(low, 4), fate(low, 1), fate(low, 3)), 1, api.OK},
		{"the same once more", w, fates(fate(late, 0), fate(late, 0), fate(low, 1), fate(low, 1)), 1, api.OK}, {"an earlier fate with more", w, fates(fate(late, 5), fate(late, 0), fate(low, 1)), 1, api.OK}, {"a later fate with more", w, fates(fate(late, 0), fate(late, 5), fate(low, 1)), 1, api.OK},
		{"a bad harvest of none", w, fates(fate(late, 0), fate(low, 0)), 0, api.ErrWrong}, {"a bad harvest with as many", w, fates(fate(late, 3), fate(low, 3)), 0, api.ErrWrong}, {"a bad harvest with one less", w, fates(fate(late, 3), fate(low, 4)), 4, api.OK},
		{"a bad harvest with as many as ever", w, fates(fate(late, ever), fate(low, ever)), 0, api.ErrWrong}, {"a bad harvest with nearly as many as ever", w, fates(fate(late, ever-1), fate(low, ever)), ever, api.OK},
		{"a later fate", w, fates(fate(low, 1), fate(late, 0)), 0, api.ErrWrong}, {"no fate after it", w, fates(fate(low, 1)), 0, api.ErrWrong}, {"no fate after it, with as many as ever", w, fates(fate(low, ever)), 0, api.ErrWrong},
		{"a fate that is its own", hut(1, 0, 1, 0), fates(fate(low, 1)), 0, api.ErrWrong}, {"two that are one another's", poor, fates(fate(full, 1), fate(dry, 1), fate(full, 1)), 0, api.ErrWrong},
		{"two bad harvests", poor, fates(fate(late, 0), fate(low, 1), fate(dry, 1), fate(full, 2)), 2, api.OK}, {"two bad harvests out of order", poor, fates(fate(late, 0), fate(low, 1), fate(full, 2), fate(dry, 1)), 0, api.ErrWrong},
		{"a good harvest with more", poor, fates(fate(late, 0), fate(low, 2), fate(dry, 1), fate(full, 2)), 0, api.ErrWrong}, {"a good harvest with less", poor, fates(fate(late, 0), fate(low, 1), fate(dry, 2), fate(full, 3)), 3, api.OK},
		{"as dry as can be", hut(2, 1, 2, 0), fates(fate(none, 0), fate(dry, 5), fate(full, 6)), 0, api.ErrWrong},
		{"nothing", w, nil, 0, api.ErrNone}, {"no fate of the town", poor, fates(fate(late, 0), fate(low, 1)), 0, api.ErrNone}, {"no fate of the town, and a wrong one", poor, fates(fate(low, 1)), 0, api.ErrWrong},
		{"starved now", hut(0, 1, 2, 0), fates(fate(none, 0)), 0, api.OK}, {"starved now, with more", hut(0, 1, 2, 0), fates(fate(none, 7)), 7, api.OK}, {"starved now, with as many as ever", hut(0, 1, 2, 0), fates(fate(none, ever)), ever, api.OK},
		{"less than no bad harvests", w, many(3, fate(none, -1)), 0, api.ErrRange}, {"more than ever", w, many(3, fate(none, ever+1)), 0, api.ErrRange}, {"more than ever after a wrong one", w, fates(fate(low, 0), fate(none, ever+1)), 0, api.ErrRange},
		{"a state of too much", w, many(3, fate(state(3, 0, 0), 0)), 0, api.ErrRange}, {"a state of less than nothing", w, many(3, fate(state(-1, 0, 0), 0)), 0, api.ErrRange},
		{"a state that is short for too long", w, many(3, fate(state(0, 1, 0), 0)), 0, api.ErrRange}, {"a state that is too dry", w, many(3, fate(state(0, 0, 2), 0)), 0, api.ErrRange},
		{"496 fates", w, many(496, fate(late, 0), fate(low, 1)), 1, api.OK}, {"497 fates", w, many(497, fate(late, 0), fate(low, 1)), 0, api.ErrMany}, {"497 fates that are not allowed", w, slices.Repeat(fates(fate(none, -1)), 497), 0, api.ErrMany}, {"a million fates", w, make([]bread.Fate, 1000000), 0, api.ErrMany},
	} {
		if n, e := bread.Starves(x.w, x.fates); n != x.n || e != x.e {
			t.Error(x.name, "starve", n, e, "and should starve", x.n, x.e)
		}
		if n, e := starved(x.w, x.fates); n != x.n || e != x.e {
			t.Error(x.name, "starve", n, e, "by the words of the chapter")
		}
	}
}

// someFates is fates that hold of all states that do not last ever, with more bad harvests than are needed, some of them changed.
func someFates(r *rand.Rand, w bread.Town) []bread.Fate {
	lasts := lastsOf(w)
	more := max(0, r.IntN(5)-2)
	var all []bread.Fate
	listed := set{}
	left := allStates(w)
	r.Shuffle(len(left), func(i, j int) { left[i], left[j] = left[j], left[i] })
	for helps := true; helps; {
		helps = false
		for _, s := range left {
			next := append(all, fate(s, lasts[s]+1+more))
			is := !listed[s] && lasts[s] != ever
			for _, k := range canSell(w, s) {
				earlier, _ := leads(w, next, len(all), k)
				is = is && earlier >= 0
			}
			if is {
				all, listed[s], helps = next, true, true
			}
		}
	}
	for range max(0, r.IntN(5)-2) {
		all = spoilFates(r, w, all)
	}
	return all
}

// spoilFates changes fates by one of them.
func spoilFates(r *rand.Rand, w bread.Town, all []bread.Fate) []bread.Fate {
	if len(all) == 0 {
		return fates(fate(someState(r, w), r.IntN(3)))
	}
	k := r.IntN(len(all))
	switch r.IntN(7) {
	case 0:
		all[k].Bads += r.IntN(3) - 1
	case 1:
		all[k].Bads = list(-1, 0, 1, ever-1, ever, ever+1)[r.IntN(6)]
	case 2:
		all[k].State = someState(r, w)
	case 3:
		all[k].State.Short++
	case 4:
		all = append(all, all[k])
	case 5:
		all = append(all, fate(all[k].State, all[k].Bads+r.IntN(3)-1))
	default:
		all = slices.Delete(all, k, k+1)
	}
	return all
}

func TestStarvesByTheWords(t *testing.T) {
	errors := map[api.Errno]int{}
	some := 0
	trials(t, 400, func(r *rand.Rand, w bread.Town) {
		all := someFates(r, w)
		if len(all) > bread.MaxRows {
			all = all[:bread.MaxRows]
		}
		want, e := starved(w, all)
		n, f := bread.Starves(w, all)
		if n != want || f != e {
			t.Error("in", w, all, "starve", n, f, "and should starve", want, e)
		}
		if errors[e]++; n > 1 {
			some++
		}
	})
	if errors[api.OK] < 200 || errors[api.ErrRange] < 50 || errors[api.ErrWrong] < 50 || errors[api.ErrNone] < 50 || some < 50 {
		t.Error("the errors are", errors, "and", some, "need some bad harvests")
	}
}
