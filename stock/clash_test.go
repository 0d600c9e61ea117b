package stock_test

import (
	"math"
	"math/rand/v2"
	"slices"
	"testing"

	"staddle/api"
	"staddle/stock"
)

func TestAgreeOfTheExamples(t *testing.T) {
	burst := stock.Yard{Days: 1, Bins: []stock.Bin{bin(5, 6, 9)}, Levels: []stock.Level{level(0, 0, 0, 9)}}
	for _, x := range []struct {
		y      stock.Yard
		levels []int
		want   bool
		e      api.Errno
	}{
		{barn(0, 1), nil, true, api.OK}, {barn(0, 1), []int{}, true, api.OK}, {barn(0, 1), []int{0}, true, api.OK}, {barn(0, 1), []int{1}, true, api.OK},
		{barn(0, 1), []int{0, 1}, false, api.OK}, {barn(0, 1), []int{1, 0}, false, api.OK}, {barn(0, 1, 2), []int{2}, true, api.OK},
		{barn(0, 1, 2), []int{0, 2}, false, api.OK}, {barn(0, 1, 2), []int{2, 1}, true, api.OK}, {barn(), nil, true, api.OK},
		{burst, nil, false, api.OK}, {burst, []int{0}, false, api.OK},
		{barn(0, 1), []int{-1}, false, api.ErrNot}, {barn(0, 1), []int{2}, false, api.ErrNot}, {barn(0, 1), []int{0, 2}, false, api.ErrNot},
		{barn(0, 1), []int{0, 0, 2}, false, api.ErrNot}, {barn(0, 1), []int{math.MinInt}, false, api.ErrNot}, {barn(0, 1), []int{math.MaxInt}, false, api.ErrNot},
		{barn(), []int{0}, false, api.ErrNot}, {barn(0, 1), []int{0, 0}, false, api.ErrTwice}, {barn(0, 1), []int{1, 0, 1}, false, api.ErrTwice}, {burst, []int{0, 0}, false, api.ErrTwice},
		{full(), []int{7, 6, 5, 4, 3, 2, 1, 0}, true, api.OK}, {full(), []int{8}, false, api.ErrNot}, {full(), []int{7, 6, 5, 4, 3, 2, 1, 0, 7}, false, api.ErrTwice},
	} {
		if is, e := stock.Agree(x.y, x.levels); is != x.want || e != x.e {
			t.Error("levels", x.levels, "agree:", is, e, "and should:", x.want, x.e)
		}
	}
}

func TestClashAndWrongOfTheExamples(t *testing.T) {
	pairs := func(n int, more ...stock.Level) stock.Yard {
		y := stock.Yard{Days: 1, Bins: []stock.Bin{bin(9, 0, 9), bin(9, 0, 9), bin(9, 0, 9), bin(9, 0, 9)}}
		for b := range n {
			y.Levels = append(y.Levels, level(0, b, 2, 2), level(1, b, 3, 3))
		}
		y.Levels = append(y.Levels, more...)
		return y
	}
	for _, x := range []struct {
		name         string
		y            stock.Yard
		clash, wrong []int
		e, f         api.Errno
	}{
		{"no levels", barn(), nil, nil, api.ErrNone, api.OK},
		{"example 2", barn(0), nil, nil, api.ErrNone, api.OK},
		{"example 4", barn(0, 1), []int{0, 1}, []int{0}, api.OK, api.OK},
		{"the levels the other way round", barn(1, 0), []int{0, 1}, []int{0}, api.OK, api.OK},
		{"level 0 clashes with both others", barn(0, 1, 2), []int{0, 1}, []int{0}, api.OK, api.OK},
		{"the last one clashes with both others", barn(1, 2, 0), []int{0, 2}, []int{2}, api.OK, api.OK},
		{"the middle one clashes with both others", barn(1, 0, 2), []int{0, 1}, []int{1}, api.OK, api.OK},
		{"one level alone", measured(level(2, 1, 36, 40), level(2, 1, 20, 25), level(2, 0, 10, 24)), []int{0}, []int{0, 1}, api.OK, api.OK},
		{"one level alone, the last one", measured(level(2, 1, 20, 25), level(2, 1, 36, 40)), []int{1}, []int{1}, api.OK, api.OK},
		{"two levels alone", measured(level(2, 1, 36, 40), level(1, 0, 0, 300), level(1, 0, 91, 91)), []int{0}, []int{0, 2}, api.OK, api.OK},
		{"the same level three times", measured(level(2, 1, 36, 40), level(2, 1, 36, 40), level(2, 1, 36, 40)), []int{0}, []int{0, 1, 2}, api.OK, api.OK},
		{"no amounts without any level", stock.Yard{Days: 1, Bins: []stock.Bin{bin(5, 6, 9)}, Levels: []stock.Level{level(0, 0, 0, 9)}}, nil, nil, api.OK, api.ErrClash},
		{"no amounts, and no level", stock.Yard{Days: 1, Bins: []stock.Bin{bin(5, 6, 9)}}, nil, nil, api.OK, api.ErrClash},
		{"a pair", pairs(1), []int{0, 1}, []int{0}, api.OK, api.OK},
		{"four pairs", pairs(4), []int{0, 1}, []int{0, 2, 4, 6}, api.OK, api.OK},
		{"three pairs, and both ends of the first one twice", pairs(3, level(0, 0, 2, 2), level(1, 0, 3, 3)), []int{0, 1}, []int{0, 2, 4, 6}, api.OK, api.OK},
		{"a pair, and its end once more", pairs(1, level(1, 0, 3, 4)), []int{0, 1}, []int{0}, api.OK, api.OK},
		{"a pair, and its beginning once more", pairs(1, level(0, 0, 1, 2)), []int{0, 1}, []int{1}, api.OK, api.OK},
		{"eight levels that agree", full(), nil, nil, api.ErrNone, api.OK},
	} {
		l, e := stock.Clash(x.y)
		k, f := stock.Wrong(x.y)
		if !slices.Equal(l, x.clash) || e != x.e {
			t.Error(x.name, "clashes in", l, e, "and should in", x.clash, x.e)
		}
		if !slices.Equal(k, x.wrong) || f != x.f {
			t.Error(x.name, "has wrong", k, f, "and should have", x.wrong, x.f)
		}
	}
}

// TestAClashOfAllLevels has four bins with 400 sacks at least by all levels of the beginning, and 396 at most by all of
// the end. Grain can go from any of them to any other one, so that any seven of the levels agree.
func TestAClashOfAllLevels(t *testing.T) {
	y := stock.Yard{Days: 1, Bins: slices.Repeat([]stock.Bin{bin(300, 0, 300)}, 4)}
	for b := range 4 {
		y.Moves = append(y.Moves, move(0, b, (b+1)%4, 0, 300))
		y.Levels = append(y.Levels, level(1, b, 0, 99), level(0, b, 100, 300))
	}
	all := []int{0, 1, 2, 3, 4, 5, 6, 7}
	if l, e := stock.Clash(y); !slices.Equal(l, all) || e != api.OK {
		t.Error("levels clash in", l, e)
	}
	if l, e := stock.Wrong(y); !slices.Equal(l, []int{0}) || e != api.OK {
		t.Error("wrong levels are", l, e)
	}
	for i := range all {
		others := slices.Delete(slices.Clone(all), i, i+1)
		if is, e := stock.Agree(y, others); !is || e != api.OK {
			t.Error("levels", others, "agree:", is, e)
		}
	}
	y.Levels[6].Sacks.Hi = 103
	if l, e := stock.Clash(y); len(l) != 0 || e != api.ErrNone {
		t.Error("levels that agree clash in", l, e)
	}
}

func TestClashesAreTheFewestOfAll(t *testing.T) {
	sizes, wrongs := map[int]int{}, map[int]int{}
	trials(t, 1500, smallYard, func(r *rand.Rand, y stock.Yard) {
		k := look(y)
		n := len(y.Levels)
		all := 1<<n - 1
		clash, has := fewest(n, func(set int) bool { return !k.agree(set) })
		wrong, can := fewest(n, func(set int) bool { return k.agree(all &^ set) })
		want, f := api.OK, api.OK
		if !has {
			want = api.ErrNone
		}
		if !can {
			f = api.ErrClash
		}
		if got, e := stock.Clash(y); !slices.Equal(got, clash) || e != want {
			t.Error(y, "clashes in", got, e, "and should in", clash, want)
		}
		if got, e := stock.Wrong(y); !slices.Equal(got, wrong) || e != f {
			t.Error(y, "has wrong", got, e, "and should have", wrong, f)
		}
		if has {
			sizes[len(clash)]++
		}
		wrongs[len(wrong)]++
		for range 6 {
			list := r.Perm(n)[:r.IntN(n+1)]
			if is, e := stock.Agree(y, list); is != k.agree(setOf(list)) || e != api.OK {
				t.Error(y, list, "agree:", is, e)
			}
		}
	})
	if sizes[0] < 20 || sizes[1] < 20 || sizes[2] < 20 || sizes[3] < 1 || wrongs[1] < 20 || wrongs[2] < 20 || wrongs[3] < 20 {
		t.Error("too few of a kind: clashes", sizes, "wrong levels", wrongs)
	}
}
