package stock_test

import (
	"math"
	"math/rand/v2"
	"slices"
	"testing"

	"staddle/api"
	"staddle/stock"
)

func TestContentsAndFitsOfTheExamples(t *testing.T) {
	fourDays := stock.Yard{
		Days: 4,
		Bins: []stock.Bin{bin(300, 0, 300), bin(300, 0, 300), bin(300, 0, 300)},
		Moves: []stock.Move{
			move(3, 2, stock.Outside, 0, 300), move(0, stock.Outside, 0, 0, 300), move(0, 0, 1, 0, 300),
			move(2, 1, 2, 0, 300), move(2, 1, 2, 0, 300), move(0, 0, stock.Outside, 0, 300),
		},
	}
	for _, x := range []struct {
		name string
		y    stock.Yard
		a    stock.Amounts
		want [][]int
		fits bool
	}{
		{"example 1", barn(), amounts([]int{20, 0}, []int{40, 40, 5}), [][]int{{20, 60, 20}, {0, 0, 35}}, true},
		{"example 1 at the greatest", barn(), amounts([]int{30, 0}, []int{60, 10, 10}), [][]int{{30, 90, 80}, {0, 0, 0}}, true},
		{"example 2", barn(0), amounts([]int{25, 0}, []int{50, 30, 8}), [][]int{{25, 75, 45}, {0, 0, 22}}, true},
		{"below the level", barn(0), amounts([]int{25, 0}, []int{50, 24, 5}), [][]int{{25, 75, 51}, {0, 0, 19}}, false},
		{"above the level", barn(0), amounts([]int{25, 0}, []int{50, 36, 10}), [][]int{{25, 75, 39}, {0, 0, 26}}, false},
		{"at the least of the level", barn(0), amounts([]int{25, 0}, []int{50, 25, 5}), [][]int{{25, 75, 50}, {0, 0, 20}}, true},
		{"at the greatest of the level", barn(0), amounts([]int{25, 0}, []int{50, 35, 10}), [][]int{{25, 75, 40}, {0, 0, 25}}, true},
		{"one of two levels", barn(0, 1), amounts([]int{25, 0}, []int{50, 30, 8}), [][]int{{25, 75, 45}, {0, 0, 22}}, false},
		{"too little at first", barn(), amounts([]int{19, 0}, []int{50, 30, 8}), [][]int{{19, 69, 39}, {0, 0, 22}}, false},
		{"too much at first", barn(), amounts([]int{20, 1}, []int{50, 30, 8}), [][]int{{20, 70, 40}, {1, 1, 23}}, false},
		{"too little moved", barn(), amounts([]int{25, 0}, []int{39, 30, 8}), [][]int{{25, 64, 34}, {0, 0, 22}}, false},
		{"too much moved last", barn(), amounts([]int{25, 0}, []int{40, 30, 11}), [][]int{{25, 65, 35}, {0, 0, 19}}, false},
		{"nothing stays in a bin", barn(), amounts([]int{25, 0}, []int{40, 10, 10}), [][]int{{25, 65, 55}, {0, 0, 0}}, true},
		{"all numbers 0", barn(), amounts([]int{0, 0}, []int{0, 0, 0}), [][]int{{0, 0, 0}, {0, 0, 0}}, false},
		{"all numbers 300", barn(), amounts([]int{300, 300}, []int{300, 300, 300}), [][]int{{300, 600, 300}, {300, 300, 300}}, false},
		{"more than goes in", barn(), amounts([]int{0, 0}, []int{0, 300, 0}), [][]int{{0, 0, -300}, {0, 0, 300}}, false},
		{"four days", fourDays, amounts([]int{5, 40, 2}, []int{50, 9, 8, 20, 28, 6}), [][]int{{5, 0, 0, 0, 0}, {40, 48, 48, 0, 0}, {2, 2, 2, 50, 0}}, true},
		{"one sack less than nothing in the end", fourDays, amounts([]int{5, 40, 2}, []int{51, 9, 8, 20, 28, 6}), [][]int{{5, 0, 0, 0, 0}, {40, 48, 48, 0, 0}, {2, 2, 2, 50, -1}}, false},
		{"one sack less than nothing on a day", fourDays, amounts([]int{5, 39, 2}, []int{50, 9, 8, 20, 28, 6}), [][]int{{5, 0, 0, 0, 0}, {39, 47, 47, -1, -1}, {2, 2, 2, 50, 0}}, false},
	} {
		got, e := stock.Contents(x.y, x.a)
		if !sameRows(got, x.want) || e != api.OK {
			t.Error(x.name, "has contents", got, e, "and should have", x.want)
		}
		if fits, e := stock.Fits(x.y, x.a); fits != x.fits || e != api.OK {
			t.Error(x.name, "fits:", fits, e)
		}
	}
}

// TestABinIsNoFullerThanItHolds has a bin filled to the brim, and one sack beyond, at each time.
func TestABinIsNoFullerThanItHolds(t *testing.T) {
	y := stock.Yard{Days: 2, Bins: []stock.Bin{bin(10, 0, 300)}, Moves: []stock.Move{move(0, stock.Outside, 0, 0, 9), move(1, 0, stock.Outside, 0, 9)}}
	for _, x := range []struct {
		first, in, out int
		fits           bool
	}{{10, 0, 0, true}, {11, 0, 0, false}, {11, 0, 9, false}, {5, 5, 0, true}, {5, 6, 0, false}, {5, 6, 9, false}, {0, 0, 0, true}, {0, 3, 3, true}, {0, 3, 4, false}} {
		if fits, e := stock.Fits(y, amounts([]int{x.first}, []int{x.in, x.out})); fits != x.fits || e != api.OK {
			t.Error(x, "fits:", fits, e)
		}
	}
}

func TestErrorsOfAmounts(t *testing.T) {
	for _, x := range []struct {
		name string
		a    stock.Amounts
		want api.Errno
	}{
		{"no amounts", stock.Amounts{}, api.ErrMany},
		{"a bin too few", amounts([]int{25}, []int{50, 30, 8}), api.ErrMany},
		{"a bin too many", amounts([]int{25, 0, 0}, []int{50, 30, 8}), api.ErrMany},
		{"a move too few", amounts([]int{25, 0}, []int{50, 30}), api.ErrMany},
		{"a move too many", amounts([]int{25, 0}, []int{50, 30, 8, 0}), api.ErrMany},
		{"a bin too few, and a number too great", amounts([]int{301}, []int{50, 30, 8}), api.ErrMany},
		{"a move too few, and a number too small", amounts([]int{-1, 0}, []int{50, 30}), api.ErrMany},
		{"a first number too small", amounts([]int{-1, 0}, []int{50, 30, 8}), api.ErrRange},
		{"a last first number too great", amounts([]int{25, 301}, []int{50, 30, 8}), api.ErrRange},
		{"a moved number too small", amounts([]int{25, 0}, []int{-1, 30, 8}), api.ErrRange},
		{"a last moved number too great", amounts([]int{25, 0}, []int{50, 30, 301}), api.ErrRange},
		{"numbers of all sizes", amounts([]int{math.MaxInt, math.MinInt}, []int{50, 30, 8}), api.ErrRange},
	} {
		got, e := stock.Contents(barn(), x.a)
		fits, f := stock.Fits(barn(), x.a)
		if e != x.want || f != x.want || len(got) != 0 || fits {
			t.Error(x.name, "has errors", e, f, "and should have", x.want, "; results", got, fits)
		}
	}
}

func TestContentsAndFitsOfAnyAmounts(t *testing.T) {
	count := map[bool]int{}
	trials(t, 2000, smallYard, func(r *rand.Rand, y stock.Yard) {
		a := someAmounts(r, y)
		if r.IntN(9) == 0 {
			a.First[r.IntN(len(y.Bins))] += 1 + r.IntN(3)
		}
		got, e := stock.Contents(y, a)
		if !sameRows(got, rows(y, a)) || e != api.OK {
			t.Error(y, a, "has contents", got, e)
		}
		fit, set := broken(y, a)
		if fits, e := stock.Fits(y, a); fits != (fit && set == 0) || e != api.OK {
			t.Error(y, a, "fits:", fits, e)
		}
		count[fit && set == 0]++
	})
	if count[true] < 50 || count[false] < 50 {
		t.Error("amounts seldom fit, or seldom do not:", count)
	}
}

// fit says whether amounts have all numbers that a yard needs, and fit, as they are told by the chapter.
func fit(y stock.Yard, a stock.Amounts) bool {
	if len(a.First) != len(y.Bins) || len(a.Moved) != len(y.Moves) {
		return false
	}
	fits, set := broken(y, a)
	return fits && set == 0
}

func TestSomeReturnsAmountsThatFit(t *testing.T) {
	for _, x := range []struct {
		y    stock.Yard
		want api.Errno
	}{
		{barn(), api.OK}, {barn(0), api.OK}, {barn(1), api.OK}, {barn(2), api.OK}, {barn(0, 1), api.ErrClash}, {barn(0, 2), api.ErrClash},
		{measured(level(0, 0, 30, 31)), api.OK}, {measured(level(0, 0, 31, 300)), api.ErrClash}, {measured(level(0, 0, 0, 20)), api.OK}, {measured(level(0, 0, 0, 19)), api.ErrClash},
		{measured(level(2, 0, 80, 80)), api.OK}, {measured(level(2, 0, 81, 300)), api.ErrClash}, {measured(level(2, 0, 20, 20)), api.OK}, {measured(level(2, 0, 0, 19)), api.ErrClash},
		{stock.Yard{Days: 1, Bins: []stock.Bin{bin(0, 0, 0)}}, api.OK}, {stock.Yard{Days: 1, Bins: []stock.Bin{bin(0, 1, 1)}}, api.ErrClash}, {full(), api.OK},
	} {
		a, e := stock.Some(x.y)
		if e != x.want || e == api.OK && !fit(x.y, a) || e != api.OK && (len(a.First) != 0 || len(a.Moved) != 0) {
			t.Error(x.y, "has some amounts", a, e, "and should have error", x.want)
		}
	}
}

func TestSomeIsFoundIfThereIsAny(t *testing.T) {
	count := map[api.Errno]int{}
	trials(t, 1000, smallYard, func(r *rand.Rand, y stock.Yard) {
		want := api.OK
		k := look(y)
		if !k.fits() {
			want = api.ErrClash
		}
		a, e := stock.Some(y)
		if e != want || e == api.OK && !fit(y, a) {
			t.Error(y, "has some amounts", a, e, "and should have error", want)
		}
		count[e]++
	})
	if count[api.OK] < 100 || count[api.ErrClash] < 100 {
		t.Error("yards seldom have an end:", count)
	}
}

func TestShownOfTheExamples(t *testing.T) {
	for _, x := range []struct {
		y                stock.Yard
		bin, time, sacks int
		want             api.Errno
	}{
		{barn(), 0, 0, 20, api.OK}, {barn(), 0, 0, 30, api.OK}, {barn(), 0, 0, 19, api.ErrNone}, {barn(), 0, 0, 31, api.ErrNone},
		{barn(), 0, 1, 60, api.OK}, {barn(), 0, 1, 90, api.OK}, {barn(), 0, 1, 59, api.ErrNone}, {barn(), 0, 1, 91, api.ErrNone},
		{barn(), 1, 2, 0, api.OK}, {barn(), 1, 2, 35, api.OK}, {barn(), 1, 2, 36, api.ErrNone}, {barn(), 1, 2, -1, api.ErrNone},
		{barn(0), 0, 2, 25, api.OK}, {barn(0), 0, 2, 65, api.OK}, {barn(0), 0, 2, 24, api.ErrNone}, {barn(0), 0, 2, 66, api.ErrNone},
		{barn(), 0, 0, math.MinInt, api.ErrNone}, {barn(), 0, 0, math.MaxInt, api.ErrNone}, {barn(0, 1), 0, 0, 25, api.ErrNone},
		{barn(), -1, 0, 0, api.ErrNot}, {barn(), 2, 0, 0, api.ErrNot}, {barn(), 0, -1, 25, api.ErrNot}, {barn(), 0, 3, 25, api.ErrNot},
		{barn(), math.MaxInt, math.MaxInt, 0, api.ErrNot}, {barn(), 0, math.MinInt, 25, api.ErrNot}, {barn(0, 1), 0, 3, 25, api.ErrNot}, {barn(0, 1), 2, 0, 25, api.ErrNot},
	} {
		a, e := stock.Shown(x.y, x.bin, x.time, x.sacks)
		if e != x.want || e != api.OK && (len(a.First) != 0 || len(a.Moved) != 0) {
			t.Error(x, "is shown by", a, e)
		}
		if e == api.OK && (!fit(x.y, a) || rows(x.y, a)[x.bin][x.time] != x.sacks) {
			t.Error(x, "is shown by", a, "which has", rows(x.y, a))
		}
	}
}

func TestShownIsFoundIfThereIsAny(t *testing.T) {
	trials(t, 300, smallYard, func(r *rand.Rand, y stock.Yard) {
		k := look(y)
		for b := range y.Bins {
			for time := range y.Days + 1 {
				for sacks := -1; sacks <= 12; sacks++ {
					want := api.OK
					if !k.has[[3]int{b, time, sacks}] {
						want = api.ErrNone
					}
					a, e := stock.Shown(y, b, time, sacks)
					if e != want || e == api.OK && (!fit(y, a) || rows(y, a)[b][time] != sacks) {
						t.Error(y, b, time, sacks, "is shown by", a, e, "and should have error", want)
					}
				}
			}
		}
	})
}

func TestRowsAndAmountsShareNoMemory(t *testing.T) {
	a := amounts([]int{25, 0}, []int{50, 30, 8})
	got, _ := stock.Contents(barn(), a)
	for i := range got {
		got[i] = append(got[i], 7)
		clear(got[i])
	}
	if !slices.Equal(a.First, []int{25, 0}) || !slices.Equal(a.Moved, []int{50, 30, 8}) {
		t.Error("amounts were changed:", a)
	}
	got, _ = stock.Contents(barn(), a)
	_ = append(got[0], 99)
	if !sameRows(got, [][]int{{25, 75, 45}, {0, 0, 22}}) {
		t.Error("the rows of contents share memory, or were kept:", got)
	}
	some, _ := stock.Some(barn(0))
	_ = append(some.First, 99, 99, 99)
	if !fit(barn(0), some) {
		t.Error("the lists of amounts share memory:", some)
	}
}
