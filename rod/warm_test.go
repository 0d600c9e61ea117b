package rod_test

import (
	"math"
	"math/rand/v2"
	"slices"
	"testing"

	"staddle/api"
	"staddle/rod"
)

// between is a bin with a rod at each end and one between them, which one cell explains.
func between() rod.Bin { return bin(3, 1, put(0, 0, 1, 2), put(2, 0, 1, 2), put(1, 0, 0, 3)) }

func TestExplainsOfTheExamples(t *testing.T) {
	for _, x := range []struct {
		b    rod.Bin
		c    rod.Cell
		want []int
		e    api.Errno
	}{
		{barn(0, 1, 2), cell(0, 2), []int{2}, api.OK}, {barn(0, 1, 2), cell(1, 2), []int{0}, api.OK}, {barn(0, 1, 2), cell(0, 1), []int{0}, api.OK},
		{barn(0, 1, 2), cell(1, 1), []int{0}, api.OK}, {barn(0, 1, 2), cell(0, 0), []int{0}, api.OK}, {barn(0, 1, 2), cell(2, 2), []int{0}, api.OK},
		{barn(0, 1, 2), cell(2, 0), nil, api.OK}, {barn(0, 1, 2), cell(3, 0), nil, api.OK}, {barn(0, 1, 2), cell(3, 1), nil, api.OK}, {barn(0, 1, 2), cell(3, 2), nil, api.OK},
		{barn(2, 1, 0), cell(0, 2), []int{0}, api.OK}, {barn(1, 3), cell(0, 2), nil, api.OK}, {barn(), cell(0, 0), nil, api.OK},
		{between(), cell(0, 0), []int{0}, api.OK}, {between(), cell(1, 0), []int{0, 1, 2}, api.OK}, {between(), cell(2, 0), []int{1}, api.OK},
		{ring(), cell(0, 0), []int{0}, api.OK}, {ring(), cell(1, 0), []int{0, 1}, api.OK}, {ring(), cell(0, 1), []int{0, 2}, api.OK}, {ring(), cell(1, 1), []int{1, 2}, api.OK},
		{bin(2, 1, put(0, 0, 0, 5), put(0, 0, 0, 5), put(1, 0, 1, 4)), cell(0, 0), []int{0, 1, 2}, api.OK}, {bin(2, 1, put(0, 0, 0, 5), put(0, 0, 0, 5), put(1, 0, 1, 4)), cell(1, 0), []int{2}, api.OK},
		{barn(0, 1, 2), cell(4, 0), nil, api.ErrNot}, {barn(0, 1, 2), cell(0, 3), nil, api.ErrNot}, {barn(0, 1, 2), cell(-1, 0), nil, api.ErrNot}, {barn(0, 1, 2), cell(0, -1), nil, api.ErrNot},
		{barn(0, 1, 2), cell(math.MaxInt, math.MinInt), nil, api.ErrNot}, {barn(0, 2, 3), cell(4, 0), nil, api.ErrNot}, {barn(0, 2, 3), cell(0, 2), nil, api.ErrClash},
	} {
		if got, e := rod.Explains(x.b, x.c); !slices.Equal(got, x.want) || e != x.e {
			t.Error(x.b, x.c, "explains", got, e, "and should explain", x.want, x.e)
		}
	}
}

func TestExplainsAnyRods(t *testing.T) {
	count := map[int]int{}
	searched(t, func(r *rand.Rand, b rod.Bin, k known) {
		for i, c := range allCells(b) {
			var want []int
			e := api.ErrClash
			if k.fits() {
				e = api.OK
				for j, is := range k.explains[i] {
					if is {
						want = append(want, j)
					}
				}
			}
			if got, f := rod.Explains(b, c); !slices.Equal(got, want) || e != f {
				t.Error(b, c, "explains", got, f, "and should explain", want, e)
			}
			count[len(want)]++
		}
	})
	if count[0] < 100 || count[1] < 100 || count[2] < 100 || count[3] < 20 {
		t.Error("cells seldom explain several rods:", count)
	}
}

// explainsAll says whether heats fit a bin in which listed cells have the greatest ones, and all others have 0; if they
// are warm cells then, and in their order.
func explainsAll(b rod.Bin, k known, warm []rod.Cell) bool {
	heats := make([]int, b.Cols*b.Rows)
	last := -1
	for _, c := range warm {
		i := slices.Index(allCells(b), c)
		if i <= last || k.most[i] == 0 {
			return false
		}
		heats[i], last = k.most[i], i
	}
	return fit(b, heats)
}

func TestFewestAndApartOfTheExamples(t *testing.T) {
	for _, x := range []struct {
		name  string
		b     rod.Bin
		few   int
		apart []int
		e     api.Errno
	}{
		{"the bin of the examples", barn(0, 1, 2), 2, []int{0, 2}, api.OK},
		{"the same in another order", barn(1, 2, 0), 2, []int{1, 2}, api.OK},
		{"one rod that shows something", barn(0, 1), 1, []int{0}, api.OK},
		{"rods that show nothing", barn(1, 3), 0, nil, api.OK},
		{"no rods", barn(), 0, nil, api.OK},
		{"the same rod three times", barn(0, 0, 0), 1, []int{0}, api.OK},
		{"three rods, each for itself", bin(5, 1, put(0, 0, 0, 2), put(4, 0, 0, 2), put(2, 0, 0, 2)), 3, []int{0, 1, 2}, api.OK},
		{"the one in the middle shares cells with both others", bin(5, 1, put(0, 0, 1, 2), put(2, 0, 1, 2), put(4, 0, 1, 2)), 2, []int{0, 2}, api.OK},
		{"the same, with the one in the middle first", bin(5, 1, put(2, 0, 1, 2), put(0, 0, 1, 2), put(4, 0, 1, 2)), 2, []int{1, 2}, api.OK},
		{"one cell for all", between(), 1, []int{0}, api.OK},
		{"two rods, then the same ones", bin(2, 1, put(0, 0, 0, 1), put(0, 0, 0, 1), put(1, 0, 0, 1), put(1, 0, 0, 1)), 2, []int{0, 2}, api.OK},
		{"more cells than rods that are apart", ring(), 2, []int{0}, api.OK},
		{"eight rods, each for itself", bin(4, 2, put(0, 0, 0, 1), put(1, 0, 0, 1), put(2, 0, 0, 1), put(3, 0, 0, 1), put(0, 1, 0, 1), put(1, 1, 0, 1), put(2, 1, 0, 1), put(3, 1, 0, 1)), 8, []int{0, 1, 2, 3, 4, 5, 6, 7}, api.OK},
		{"example 5", barn(0, 2, 3), 0, nil, api.ErrClash},
	} {
		c, e := rod.Fewest(x.b)
		a, f := rod.Apart(x.b)
		if len(c) != x.few || !slices.Equal(a, x.apart) || e != x.e || f != x.e {
			t.Error(x.name, "has warm cells", c, "and apart", a, e, f, "and should have", x.few, x.apart, x.e)
		}
		if k := reckon(x.b); e == api.OK && !explainsAll(x.b, k, c) {
			t.Error(x.name, "is not explained by", c)
		}
	}
}

// ring has three rods any two of which share a cell that explains them, though no cell explains all three.
func ring() rod.Bin { return bin(2, 2, put(0, 0, 1, 2), put(1, 0, 2, 3), put(0, 1, 2, 3)) }

func TestFewestAndApartOfAnyRods(t *testing.T) {
	fews, aparts, more := map[int]int{}, map[int]int{}, 0
	searched(t, func(r *rand.Rand, b rod.Bin, k known) {
		want := api.OK
		var apart []int
		if k.fits() {
			apart = most(len(b.Rods), func(set int) bool { return k.isApart(b, set) })
		} else {
			want = api.ErrClash
		}
		c, e := rod.Fewest(b)
		a, f := rod.Apart(b)
		if len(c) != k.fewest || e != want || e == api.OK && !explainsAll(b, k, c) {
			t.Error(b, "is explained by", c, e, "and should be by", k.fewest, want)
		}
		if !slices.Equal(a, apart) || f != want {
			t.Error(b, "has apart", a, f, "and should have", apart, want)
		}
		fews[len(c)]++
		aparts[len(a)]++
		if len(c) > len(a) {
			more++
		}
	})
	if fews[1] < 50 || fews[2] < 50 || fews[3] < 50 || fews[4] < 5 || aparts[1] < 50 || aparts[2] < 50 || aparts[3] < 50 || more < 1 {
		t.Error("too few of a kind: fewest", fews, "apart", aparts, "more cells than rods apart", more)
	}
}

func TestLayOfTheExamples(t *testing.T) {
	for _, x := range []struct {
		name string
		b    rod.Bin
		warm []rod.Cell
		want []int
		e    api.Errno
	}{
		{"two warm cells", barn(0, 1, 2), cells(cell(1, 1), cell(0, 2)), warmHeats(), api.OK},
		{"the same in another order", barn(0, 1, 2), cells(cell(0, 2), cell(1, 1)), warmHeats(), api.OK},
		{"a cell that is surely cool", barn(0, 1, 2), cells(cell(0, 2), cell(3, 0), cell(2, 2)), changed(changed(make([]int, 12), 8, 4), 10, 5), api.OK},
		{"all cells", barn(0, 1, 2), allCells(barn()), hotHeats(), api.OK},
		{"no cells, and nothing is shown", barn(1, 3), nil, make([]int, 12), api.OK},
		{"no cells, and no rods", bin(2, 1), nil, make([]int, 2), api.OK},
		{"a cell, and no rods", bin(2, 1), cells(cell(1, 0)), []int{0, 9}, api.OK},
		{"rod 0 is left", barn(0, 1, 2), cells(cell(0, 2)), nil, api.ErrWrong},
		{"rod 2 is left", barn(0, 1, 2), cells(cell(1, 1)), nil, api.ErrWrong},
		{"both are left", barn(0, 1, 2), cells(cell(3, 0), cell(3, 2)), nil, api.ErrWrong},
		{"no cells", barn(0, 1, 2), nil, nil, api.ErrWrong},
		{"a column too many", barn(0, 1, 2), cells(cell(0, 2), cell(1, 1), cell(4, 0)), nil, api.ErrNot},
		{"a row too many", barn(0, 1, 2), cells(cell(0, 3)), nil, api.ErrNot},
		{"columns and rows before the first", barn(0, 1, 2), cells(cell(-1, -1)), nil, api.ErrNot},
		{"a cell where no number is greater", barn(0, 1, 2), cells(cell(0, 2), cell(math.MaxInt, 0)), nil, api.ErrNot},
		{"a cell twice, and one that there is not", barn(0, 1, 2), cells(cell(0, 2), cell(0, 2), cell(4, 0)), nil, api.ErrNot},
		{"a cell twice", barn(0, 1, 2), cells(cell(0, 2), cell(1, 1), cell(0, 2)), nil, api.ErrTwice},
		{"a cell twice that does not explain all", barn(0, 1, 2), cells(cell(3, 2), cell(3, 2)), nil, api.ErrTwice},
		{"rods that clash, and no such cell", barn(0, 2, 3), cells(cell(4, 0), cell(4, 0)), nil, api.ErrNot},
		{"rods that clash, and a cell twice", barn(0, 2, 3), cells(cell(1, 1), cell(1, 1)), nil, api.ErrTwice},
		{"rods that clash", barn(0, 2, 3), cells(cell(1, 1), cell(0, 2)), nil, api.ErrClash},
		{"rods that clash, and no cells", barn(0, 2, 3), nil, nil, api.ErrClash},
	} {
		if got, e := rod.Lay(x.b, x.warm); !slices.Equal(got, x.want) || e != x.e {
			t.Error(x.name, "has heats", got, e, "and should have", x.want, x.e)
		}
	}
}

func TestLayOfAnyCells(t *testing.T) {
	count := map[api.Errno]int{}
	searched(t, func(r *rand.Rand, b rod.Bin, k known) {
		for range 4 {
			all := allCells(b)
			heats := make([]int, len(all))
			var warm []rod.Cell
			for _, i := range r.Perm(len(all))[:r.IntN(len(all)+1)] {
				warm = append(warm, all[i])
				if k.fits() {
					heats[i] = k.most[i]
				}
			}
			want := api.OK
			switch {
			case !k.fits():
				want = api.ErrClash
			case !fit(b, heats):
				want = api.ErrWrong
			}
			if want != api.OK {
				heats = nil
			}
			if got, e := rod.Lay(b, warm); !slices.Equal(got, heats) || e != want {
				t.Error(b, warm, "has heats", got, e, "and should have", heats, want)
			}
			count[want]++
		}
	})
	if count[api.OK] < 100 || count[api.ErrWrong] < 100 || count[api.ErrClash] < 100 {
		t.Error("heats seldom have an end:", count)
	}
}

func TestWarmAndOpenOfTheExamples(t *testing.T) {
	open := cells(cell(0, 0), cell(1, 0), cell(2, 0), cell(0, 1), cell(1, 1), cell(2, 1), cell(3, 1), cell(1, 2), cell(2, 2), cell(3, 2))
	for _, x := range []struct {
		name       string
		b          rod.Bin
		warm, open []rod.Cell
		e          api.Errno
	}{
		{"the bin of the examples", barn(0, 1, 2), cells(cell(0, 2)), open, api.OK},
		{"no rods", bin(1, 2), nil, cells(cell(0, 0), cell(0, 1)), api.OK},
		{"all cells are cool", bin(1, 2, put(0, 0, 0, 0), put(0, 1, 0, 0)), nil, nil, api.OK},
		{"all cells are warm", bin(2, 1, put(1, 0, 0, 1), put(0, 0, 0, 2)), cells(cell(0, 0), cell(1, 0)), nil, api.OK},
		{"one cell of each kind", bin(3, 1, put(1, 0, 1, 0), put(0, 0, 0, 1)), cells(cell(0, 0)), cells(cell(2, 0)), api.OK},
		{"one warm cell for three rods", between(), cells(cell(1, 0)), cells(cell(0, 0), cell(2, 0)), api.OK},
		{"example 5", barn(0, 2, 3), nil, nil, api.ErrClash},
	} {
		w, e := rod.Warm(x.b)
		o, f := rod.Open(x.b)
		if !slices.Equal(w, x.warm) || !slices.Equal(o, x.open) || e != x.e || f != x.e {
			t.Error(x.name, "is warm at", w, "open at", o, e, f, "and should be at", x.warm, x.open, x.e)
		}
	}
}

func TestWarmAndOpenOfAnyRods(t *testing.T) {
	warms := 0
	searched(t, func(r *rand.Rand, b rod.Bin, k known) {
		var warm, open []rod.Cell
		want := api.ErrClash
		if k.fits() {
			want = api.OK
			for i, c := range allCells(b) {
				switch {
				case k.least[i] > 0:
					warm = append(warm, c)
				case k.most[i] > 0:
					open = append(open, c)
				}
			}
		}
		w, e := rod.Warm(b)
		o, f := rod.Open(b)
		if !slices.Equal(w, warm) || !slices.Equal(o, open) || e != want || f != want {
			t.Error(b, "is warm at", w, "open at", o, e, f, "and should be at", warm, open, want)
		}
		warms += len(w)
	})
	if warms < 100 {
		t.Error("just", warms, "cells are surely warm")
	}
}
