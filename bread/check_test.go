package bread_test

import (
	"math"
	"math/rand/v2"
	"slices"
	"testing"

	"staddle/api"
	"staddle/bread"
)

func TestConstants(t *testing.T) {
	got := list(bread.Ever, bread.Never, bread.MaxHolds, bread.MaxRow, bread.MaxRot, bread.MaxRations, bread.MaxPrice, bread.MaxYears, bread.MaxRows, bread.MaxBakers, bread.MaxSacks)
	if want := list(1000000, -1, 30, 3, 5, 4, 100, 12, 496, 8, 1000); !slices.Equal(got, want) {
		t.Error("the constants are", got, "and should be", want)
	}
}

// number is a number of a town, with the least and the greatest one that is allowed, the others being as they are.
type number struct {
	name  string
	of    func(t *bread.Town) *int
	least int
	most  int
}

// wide is a town that has room for all its numbers.
func wide() bread.Town {
	return bread.Town{Now: state(0, 0, 0), Holds: 30, Patience: 3, Run: 3, Good: 30, Rations: []bread.Ration{sold(20, 40), sold(10, 60)}}
}

func TestCheckAtTheLimits(t *testing.T) {
	for _, x := range []number{
		{"Holds", func(t *bread.Town) *int { return &t.Holds }, 0, 30},
		{"Need", func(t *bread.Town) *int { return &t.Need }, 0, 30},
		{"Patience", func(t *bread.Town) *int { return &t.Patience }, 0, 3},
		{"Run", func(t *bread.Town) *int { return &t.Run }, 0, 3},
		{"Good", func(t *bread.Town) *int { return &t.Good }, 0, 30},
		{"Bad", func(t *bread.Town) *int { return &t.Bad }, 0, 30},
		{"Rot", func(t *bread.Town) *int { return &t.Rot }, 0, 5},
		{"Stock", func(t *bread.Town) *int { return &t.Now.Stock }, 0, 30},
		{"Short", func(t *bread.Town) *int { return &t.Now.Short }, 0, 3},
		{"Dry", func(t *bread.Town) *int { return &t.Now.Dry }, 0, 3},
		{"the first Sacks", func(t *bread.Town) *int { return &t.Rations[0].Sacks }, 11, 30},
		{"the last Sacks", func(t *bread.Town) *int { return &t.Rations[1].Sacks }, 0, 19},
		{"the first Price", func(t *bread.Town) *int { return &t.Rations[0].Price }, 0, 59},
		{"the last Price", func(t *bread.Town) *int { return &t.Rations[1].Price }, 41, 100},
	} {
		for _, n := range list(math.MinInt, -1, 0, 1, 2, 3, 4, 5, 6, 10, 11, 19, 20, 30, 31, 40, 41, 59, 60, 100, 101, math.MaxInt) {
			w := wide()
			*x.of(&w) = n
			got := bread.Check(w)
			if want := n >= x.least && n <= x.most; (got == api.OK) != want || (n < 0 || n > 100) && got != api.ErrRange {
				t.Error(x.name, n, "has error", got)
			}
		}
	}
}

func TestCheck(t *testing.T) {
	rations := func(all ...bread.Ration) bread.Town {
		return but(func(t *bread.Town) { t.Rations = all })
	}
	for _, x := range []struct {
		name string
		w    bread.Town
		want api.Errno
	}{
		{"the example", mill(8), api.OK}, {"nothing at all", bread.Town{}, api.ErrMany},
		{"no rations", rations(), api.ErrMany}, {"one", rations(sold(4, 10)), api.OK}, {"one of nothing", rations(sold(0, 0)), api.OK},
		{"four", rations(sold(4, 10), sold(3, 11), sold(2, 12), sold(1, 13)), api.OK}, {"five", rations(sold(5, 9), sold(4, 10), sold(3, 11), sold(2, 12), sold(1, 13)), api.ErrMany},
		{"a million", rations(make([]bread.Ration, 1000000)...), api.ErrMany},
		{"a granary of nothing", bread.Town{Rations: []bread.Ration{sold(0, 0)}}, api.OK},
		{"more than it holds", rations(sold(30, 1), sold(29, 2)), api.OK},
		{"more needs than it holds", but(func(t *bread.Town) { t.Need = 13 }), api.OK},
		{"better harvests than it holds", but(func(t *bread.Town) { t.Good, t.Bad = 30, 30 }), api.OK},
		{"a full granary", mill(12), api.OK}, {"one that is too full", mill(13), api.ErrRange}, {"an empty one", mill(0), api.OK}, {"less than nothing", mill(-1), api.ErrRange},
		{"no more patience", but(func(t *bread.Town) { t.Now.Short = 1 }), api.OK}, {"less than no more patience", but(func(t *bread.Town) { t.Now.Short = 2 }), api.ErrRange},
		{"as dry as can be", but(func(t *bread.Town) { t.Now.Dry = 2 }), api.OK}, {"drier than can be", but(func(t *bread.Town) { t.Now.Dry = 3 }), api.ErrRange},
		{"a bad harvest as good as a good one", but(func(t *bread.Town) { t.Bad = 6 }), api.OK}, {"a better one", but(func(t *bread.Town) { t.Bad = 7 }), api.ErrOrder},
		{"the same sacks", rations(sold(4, 10), sold(4, 16)), api.ErrOrder}, {"more sacks", rations(sold(4, 10), sold(5, 16)), api.ErrOrder}, {"the same sacks in the end", rations(sold(4, 10), sold(3, 11), sold(3, 12)), api.ErrOrder},
		{"the same price", rations(sold(4, 10), sold(2, 10)), api.ErrOrder}, {"a lower price", rations(sold(4, 10), sold(2, 9)), api.ErrOrder}, {"the same price in the end", rations(sold(4, 10), sold(3, 11), sold(2, 11)), api.ErrOrder},
		{"a ration that is too great, in the end", rations(sold(4, 10), sold(31, 11)), api.ErrRange}, {"a price that is too high, in the end", rations(sold(4, 10), sold(3, 101)), api.ErrRange},
	} {
		if e := bread.Check(x.w); e != x.want {
			t.Error(x.name, "has error", e, "and should have", x.want)
		}
	}
}

// TestCheckInOrder has two errors in each town, the later one in the first place.
func TestCheckInOrder(t *testing.T) {
	broken := []struct {
		e     api.Errno
		first func(t *bread.Town)
		last  func(t *bread.Town)
	}{
		{api.ErrMany, func(t *bread.Town) {
			t.Rations = append(t.Rations, t.Rations...)
			t.Rations = append(t.Rations, t.Rations...)
		}, func(t *bread.Town) { t.Rations = nil }},
		{api.ErrRange, func(t *bread.Town) { t.Holds = 31 }, func(t *bread.Town) { t.Now.Dry = -1 }},
		{api.ErrRange, func(t *bread.Town) { t.Rot = 6 }, func(t *bread.Town) { t.Rations[1].Price = 101 }},
		{api.ErrOrder, func(t *bread.Town) { t.Bad = 7 }, func(t *bread.Town) { t.Rations[1].Price = 9 }},
	}
	for i, early := range broken {
		for _, late := range broken[i:] {
			w := mill(8)
			late.first(&w)
			early.last(&w)
			if e := bread.Check(w); e != early.e {
				t.Error(w, "has error", e, "and should have", early.e)
			}
		}
	}
}

// errorOfTown says what is wrong with a town, by the words of the chapter.
func errorOfTown(w bread.Town) api.Errno {
	if len(w.Rations) == 0 || len(w.Rations) > 4 {
		return api.ErrMany
	}
	allowed := func(n, most int) bool { return n >= 0 && n <= most }
	in := allowed(w.Holds, 30) && allowed(w.Need, 30) && allowed(w.Patience, 3) && allowed(w.Run, 3) && allowed(w.Good, 30) && allowed(w.Bad, 30) && allowed(w.Rot, 5)
	order := w.Bad <= w.Good
	for k, r := range w.Rations {
		in = in && allowed(r.Sacks, 30) && allowed(r.Price, 100)
		order = order && (k == 0 || r.Sacks < w.Rations[k-1].Sacks && r.Price > w.Rations[k-1].Price)
	}
	switch {
	case !in || !isState(w, w.Now):
		return api.ErrRange
	case !order:
		return api.ErrOrder
	}
	return api.OK
}

// TestCheckByTheWords changes some numbers of towns by a little.
func TestCheckByTheWords(t *testing.T) {
	errors := map[api.Errno]int{}
	trials(t, 500, func(r *rand.Rand, w bread.Town) {
		numbers := []*int{&w.Holds, &w.Need, &w.Patience, &w.Run, &w.Good, &w.Bad, &w.Rot, &w.Now.Stock, &w.Now.Short, &w.Now.Dry}
		for k := range w.Rations {
			numbers = append(numbers, &w.Rations[k].Sacks, &w.Rations[k].Price)
		}
		for range r.IntN(3) {
			*numbers[r.IntN(len(numbers))] += r.IntN(7) - 3
		}
		want := errorOfTown(w)
		if e := bread.Check(w); e != want {
			t.Error(w, "has error", e, "and should have", want)
		}
		errors[want]++
	})
	if errors[api.OK] < 500 || errors[api.ErrRange] < 100 || errors[api.ErrOrder] < 50 {
		t.Error("the errors are", errors)
	}
}
