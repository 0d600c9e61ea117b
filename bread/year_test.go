package bread_test

import (
	"math"
	"math/rand/v2"
	"slices"
	"testing"

	"staddle/api"
	"staddle/bread"
)

func TestAllowed(t *testing.T) {
	all := []bread.Ration{sold(6, 1), sold(4, 2), sold(3, 3), sold(0, 4)}
	many := but(func(t *bread.Town) { t.Rations = all })
	easy := but(func(t *bread.Town) { t.Rations, t.Need = all, 0 })
	for _, x := range []struct {
		name string
		w    bread.Town
		s    bread.State
		want []int
		e    api.Errno
	}{
		{"enough for all", many, state(6, 0, 0), list(0, 1, 2, 3), api.OK}, {"the granary is full", many, state(12, 0, 2), list(0, 1, 2, 3), api.OK},
		{"too little for the first one by 1", many, state(5, 0, 0), list(1, 2, 3), api.OK}, {"just for the second one", many, state(4, 0, 0), list(1, 2, 3), api.OK},
		{"just short ones", many, state(3, 0, 0), list(2, 3), api.OK}, {"just that of nothing", many, state(0, 0, 0), list(3), api.OK},
		{"no more patience", many, state(12, 1, 0), list(0, 1), api.OK}, {"no more patience, and just enough", many, state(4, 1, 0), list(1), api.OK},
		{"no more patience, and not enough", many, state(3, 1, 0), nil, api.OK},
		{"nothing is needed", easy, state(0, 1, 2), list(3), api.OK}, {"nothing is needed, and much is there", easy, state(12, 1, 2), list(0, 1, 2, 3), api.OK},
		{"nobody has patience", but(func(t *bread.Town) { t.Patience = 0 }), state(12, 0, 0), list(0), api.OK},
		{"the example", mill(0), state(1, 0, 0), nil, api.OK},
		{"too much", many, state(13, 0, 0), nil, api.ErrRange}, {"less than nothing", many, state(-1, 0, 0), nil, api.ErrRange},
		{"more than no patience", many, state(3, 2, 0), nil, api.ErrRange}, {"a patience of less", many, state(3, -1, 0), nil, api.ErrRange},
		{"too dry", many, state(3, 0, 3), nil, api.ErrRange}, {"not even wet", many, state(3, 0, -1), nil, api.ErrRange},
		{"the greatest stock of all", many, state(math.MaxInt, 0, 0), nil, api.ErrRange}, {"the least one of all", many, state(math.MinInt, 0, 0), nil, api.ErrRange},
	} {
		if got, e := bread.Allowed(x.w, x.s); !slices.Equal(got, x.want) || e != x.e {
			t.Error(x.name, ":", got, "are allowed, and should be", x.want, e)
		}
	}
}

func TestNext(t *testing.T) {
	rot := func(rot int) bread.Town { return but(func(t *bread.Town) { t.Rot, t.Bad = rot, 1 }) }
	three := but(func(t *bread.Town) { t.Patience = 3; t.Run = 3 })
	for _, x := range []struct {
		name string
		w    bread.Town
		s    bread.State
		k    int
		bad  bool
		want bread.State
		e    api.Errno
	}{
		{"example 1", mill(8), state(8, 0, 0), 0, true, state(4, 0, 1), api.OK},
		{"a good harvest", mill(8), state(8, 0, 1), 0, false, state(10, 0, 0), api.OK}, {"a short ration", mill(8), state(8, 0, 1), 1, true, state(6, 1, 2), api.OK},
		{"no more patience", mill(8), state(4, 1, 2), 0, false, state(6, 0, 0), api.OK},
		{"just what is held", mill(8), state(10, 0, 0), 0, false, state(12, 0, 0), api.OK}, {"more than is held", mill(8), state(12, 1, 1), 0, false, state(12, 0, 0), api.OK},
		{"more than is held by a bad harvest", but(func(t *bread.Town) { t.Bad = 5 }), state(12, 0, 0), 0, true, state(12, 0, 1), api.OK},
		{"short and dry for long", three, state(8, 2, 2), 1, true, state(6, 3, 3), api.OK}, {"no longer", three, state(8, 3, 3), 0, false, state(10, 0, 0), api.OK},
		{"nothing is left to rot", rot(5), state(4, 0, 0), 0, true, state(1, 0, 1), api.OK}, {"half of 1", rot(5), state(5, 0, 0), 0, true, state(1, 0, 1), api.OK},
		{"half of 2", rot(5), state(6, 0, 0), 0, true, state(2, 0, 1), api.OK}, {"half of 3", rot(5), state(7, 0, 0), 0, true, state(2, 0, 1), api.OK},
		{"half of 10", rot(5), state(12, 0, 0), 1, false, state(11, 1, 0), api.OK}, {"a tenth of 10", rot(1), state(12, 0, 0), 1, true, state(10, 1, 1), api.OK},
		{"a tenth of 9", rot(1), state(11, 0, 0), 1, true, state(9, 1, 1), api.OK}, {"three tenths of 4", rot(3), state(8, 0, 0), 0, true, state(3, 0, 1), api.OK},
		{"two tenths of 5", rot(2), state(9, 0, 0), 0, true, state(5, 0, 1), api.OK}, {"two tenths of 6", rot(2), state(10, 0, 0), 0, true, state(5, 0, 1), api.OK},
		{"what comes does not rot", rot(5), state(8, 0, 0), 0, false, state(8, 0, 0), api.OK},
		{"too much", mill(8), state(13, 0, 0), 0, true, state(0, 0, 0), api.ErrRange}, {"too much, and no such ration", mill(8), state(13, 0, 0), 9, true, state(0, 0, 0), api.ErrRange},
		{"ration 2", mill(8), state(12, 0, 0), 2, false, state(0, 0, 0), api.ErrNot}, {"ration -1", mill(8), state(12, 0, 2), -1, true, state(0, 0, 0), api.ErrNot},
		{"the greatest ration of all", mill(8), state(12, 0, 0), math.MaxInt, false, state(0, 0, 0), api.ErrNot}, {"the least one of all", mill(8), state(12, 0, 0), math.MinInt, false, state(0, 0, 0), api.ErrNot},
		{"too little by 1", mill(8), state(3, 0, 2), 0, true, state(0, 0, 0), api.ErrFull}, {"short for too long", mill(8), state(3, 1, 2), 1, true, state(0, 0, 0), api.ErrFull},
		{"dry for too long", mill(8), state(8, 0, 2), 0, true, state(0, 0, 0), api.ErrClash}, {"never dry", hut(2, 0, 1, 0), state(2, 0, 0), 0, true, state(0, 0, 0), api.ErrClash},
	} {
		if got, e := bread.Next(x.w, x.s, x.k, x.bad); got != x.want || e != x.e {
			t.Error(x.name, "makes", got, e, "and should make", x.want, x.e)
		}
		if x.e == api.ErrRange {
			continue
		}
		want := bread.Town{}
		if x.e == api.OK {
			want = at(x.w, x.want)
		}
		if got, e := bread.Year(at(x.w, x.s), x.k, x.bad); !sameTown(got, want) || e != x.e {
			t.Error(x.name, "makes the town", got, e, "and should make", want, x.e)
		}
	}
}

// TestYearsByTheWords asks of each ration and harvest in each state, and of some that are not allowed.
func TestYearsByTheWords(t *testing.T) {
	errors := map[api.Errno]int{}
	trials(t, 100, func(r *rand.Rand, w bread.Town) {
		for _, s := range allStates(w) {
			if got, e := bread.Allowed(w, s); !slices.Equal(got, canSell(w, s)) || e != api.OK {
				t.Error("in", w, s, got, "are allowed, and should be", canSell(w, s), e)
			}
			k, bad := r.IntN(len(w.Rations)+2)-1, r.IntN(2) == 0
			want, next := errorOfYear(w, s, k, bad), bread.State{}
			if want == api.OK {
				next = after(w, s, k, bad)
			}
			if got, e := bread.Next(w, s, k, bad); got != next || e != want {
				t.Error("in", w, s, "ration", k, bad, "makes", got, e, "and should make", next, want)
			}
			y, e := bread.Year(at(w, s), k, bad)
			if e != want || e == api.OK && !sameTown(y, at(w, next)) || e != api.OK && !sameTown(y, bread.Town{}) {
				t.Error("in", w, s, "ration", k, bad, "makes the town", y, e, "and should make", next, want)
			}
			errors[want]++
		}
	})
	for _, e := range []api.Errno{api.OK, api.ErrNot, api.ErrFull, api.ErrClash} {
		if errors[e] < 1000 {
			t.Error("just", errors[e], "have error", e)
		}
	}
}

func TestPlay(t *testing.T) {
	same := func(n int) []bread.State {
		return append(states(state(10, 0, 0)), slices.Repeat(states(state(12, 0, 0)), n-1)...)
	}
	for _, x := range []struct {
		name    string
		rations []int
		bad     []bool
		want    []bread.State
		e       api.Errno
	}{
		{"example 2", list(1, 0, 1, 0, 1, 0), bads(true, true, false, true, false, false), states(state(6, 1, 1), state(2, 0, 2), state(6, 1, 0), state(2, 0, 1), state(6, 1, 0), state(8, 0, 0)), api.OK},
		{"no years", nil, nil, nil, api.OK}, {"a year", list(0), bads(false), states(state(10, 0, 0)), api.OK},
		{"twelve years", make([]int, 12), make([]bool, 12), same(12), api.OK}, {"thirteen years", make([]int, 13), make([]bool, 13), nil, api.ErrMany},
		{"a harvest less", list(0, 0), bads(false), nil, api.ErrMany}, {"a harvest more", list(0), bads(false, false), nil, api.ErrMany},
		{"a harvest alone", nil, bads(true), nil, api.ErrMany}, {"no harvests, and no such ration", list(9), nil, nil, api.ErrMany},
		{"too many years, and no such ration", slices.Repeat(list(9), 13), make([]bool, 13), nil, api.ErrMany}, {"a million years", make([]int, 1000000), make([]bool, 1000000), nil, api.ErrMany},
		{"example 3", list(0, 1, 1), bads(true, true, false), nil, api.ErrFull}, {"example 3, with the other ration", list(0, 1, 0), bads(true, true, false), nil, api.ErrFull},
		{"three bad harvests", list(1, 0, 1), bads(true, true, true), nil, api.ErrClash},
		{"no such ration in the end", list(1, 0, 2), bads(true, true, true), nil, api.ErrNot}, {"no such ration in between", list(1, -1, 1), bads(true, true, true), nil, api.ErrNot},
		{"a ration that is not allowed, and none later", list(1, 1, 7), bads(true, true, true), nil, api.ErrFull},
		{"a harvest that is not allowed, and no ration later", list(1, 0, 1, 7), bads(true, true, true, true), nil, api.ErrClash},
	} {
		if got, e := bread.Play(mill(8), x.rations, x.bad); !slices.Equal(got, x.want) || e != x.e {
			t.Error(x.name, "leads to", got, e, "and should lead to", x.want, x.e)
		}
	}
}

// played is what some years lead to, by the words of the chapter.
func played(w bread.Town, rations []int, bad []bool) ([]bread.State, api.Errno) {
	var all []bread.State
	s := w.Now
	for year, k := range rations {
		if e := errorOfYear(w, s, k, bad[year]); e != api.OK {
			return nil, e
		}
		s = after(w, s, k, bad[year])
		all = append(all, s)
	}
	return all, api.OK
}

// someYears are rations and harvests that are allowed but for some.
func someYears(r *rand.Rand, w bread.Town, most int) ([]int, []bool) {
	var rations []int
	var bad []bool
	s := w.Now
	for range r.IntN(most + 1) {
		k, is := r.IntN(len(w.Rations)), r.IntN(2) == 0
		if can := canSell(w, s); len(can) > 0 && r.IntN(20) > 0 {
			k = can[r.IntN(len(can))]
		}
		is = is && (canBeBad(w, s) || r.IntN(20) == 0)
		if r.IntN(50) == 0 {
			k = len(w.Rations)
		}
		rations, bad = append(rations, k), append(bad, is)
		if errorOfYear(w, s, k, is) == api.OK {
			s = after(w, s, k, is)
		}
	}
	return rations, bad
}

// TestPlayYearByYear compares with years one by one.
func TestPlayYearByYear(t *testing.T) {
	errors := map[api.Errno]int{}
	long := 0
	trials(t, 500, func(r *rand.Rand, w bread.Town) {
		rations, bad := someYears(r, w, 12)
		want, e := played(w, rations, bad)
		if got, f := bread.Play(w, rations, bad); !slices.Equal(got, want) || f != e {
			t.Error("in", w, rations, bad, "lead to", got, f, "and should lead to", want, e)
		}
		y := w
		for year := range want {
			y, _ = bread.Year(y, rations[year], bad[year])
		}
		if e == api.OK && len(want) > 0 && !sameTown(y, at(w, want[len(want)-1])) {
			t.Error("in", w, rations, bad, "lead to", y, "and should lead to", want)
		}
		if errors[e]++; len(want) > 8 {
			long++
		}
	})
	if errors[api.OK] < 200 || errors[api.ErrNot] < 50 || errors[api.ErrFull] < 100 || errors[api.ErrClash] < 50 || long < 50 {
		t.Error("the errors are", errors, "and", long, "are long")
	}
}
