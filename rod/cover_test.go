package rod_test

import (
	"math"
	"slices"
	"testing"

	"staddle/api"
	"staddle/rod"
)

// some says whether any so many of listed cells, in their order, are as they are asked to be; those that begin as they
// must not are left out.
func some(all []rod.Cell, size int, may, are func(list []rod.Cell) bool) bool {
	var look func(list []rod.Cell, from int) bool
	look = func(list []rod.Cell, from int) bool {
		if !may(list) {
			return false
		}
		if len(list) == size {
			return are(list)
		}
		for i := from; len(list)+len(all)-i >= size; i++ {
			if look(append(list, all[i]), i+1) {
				return true
			}
		}
		return false
	}
	return look(make([]rod.Cell, 0, size), 0)
}

func anyCells([]rod.Cell) bool { return true }

// reachAll says whether rods at tips reach all cells of a bin.
func reachAll(b rod.Bin, reach int) func(tips []rod.Cell) bool {
	all := allCells(b)
	sets := map[rod.Cell]int{}
	for _, tip := range all {
		for i, c := range all {
			if far(c, tip) <= reach {
				sets[tip] |= 1 << i
			}
		}
	}
	return func(tips []rod.Cell) bool {
		set := 0
		for _, tip := range tips {
			set |= sets[tip]
		}
		return set == 1<<len(all)-1
	}
}

// scattered says whether no rod reaches the last one of listed cells together with another one.
func scattered(b rod.Bin, reach int) func(list []rod.Cell) bool {
	all := allCells(b)
	return func(list []rod.Cell) bool {
		if len(list) == 0 {
			return true
		}
		last := list[len(list)-1]
		for _, c := range list[:len(list)-1] {
			for _, tip := range all {
				if far(c, tip) <= reach && far(last, tip) <= reach {
					return false
				}
			}
		}
		return true
	}
}

// areInOrder says whether cells are of a bin, and in their order.
func areInOrder(b rod.Bin, list []rod.Cell) bool {
	last := -1
	for _, c := range list {
		i := slices.Index(allCells(b), c)
		if i <= last {
			return false
		}
		last = i
	}
	return true
}

// TestCoverAndScatteredOfAllBins goes through all lists with a tip less than Cover has, and with a cell more than
// Scattered has. (A list that would have more of them if it had a tip less would have one of any number less.)
func TestCoverAndScatteredOfAllBins(t *testing.T) {
	for cols := 1; cols <= rod.MaxSide; cols++ {
		for rows := 1; rows <= rod.MaxSide; rows++ {
			for reach := range rod.MaxRange + 1 {
				b := bin(cols, rows)
				tips, e := rod.Cover(cols, rows, reach)
				if e != api.OK || !areInOrder(b, tips) || !reachAll(b, reach)(tips) {
					t.Error(cols, rows, reach, "is not covered by", tips, e)
				}
				if some(allCells(b), len(tips)-1, anyCells, reachAll(b, reach)) {
					t.Error(cols, rows, reach, "is covered by less than", tips)
				}
				list, e := rod.Scattered(cols, rows, reach)
				for i := range list {
					if !scattered(b, reach)(list[:i+1]) {
						t.Error(cols, rows, reach, "has cells that are not scattered", list)
					}
				}
				if e != api.OK || !areInOrder(b, list) || some(allCells(b), len(list)+1, scattered(b, reach), anyCells) {
					t.Error(cols, rows, reach, "has more scattered than", list, e)
				}
				if len(list) > len(tips) {
					t.Error(cols, rows, reach, "has more cells that are scattered than tips:", list, tips)
				}
			}
		}
	}
}

func TestCoverAndScatteredOfTheExamples(t *testing.T) {
	for _, x := range []struct{ cols, rows, reach, tips, far int }{
		{4, 3, 2, 2, 2}, {1, 1, 0, 1, 1}, {1, 1, 3, 1, 1}, {3, 2, 0, 6, 6}, {5, 5, 0, 25, 25}, {5, 5, 1, 7, 6}, {5, 5, 2, 4, 3}, {5, 5, 3, 2, 2}, {3, 3, 1, 3, 2}, {2, 2, 1, 2, 1},
		{5, 1, 1, 2, 2}, {4, 1, 1, 2, 2}, {3, 1, 1, 1, 1}, {1, 5, 1, 2, 2}, {5, 1, 2, 1, 1}, {1, 5, 3, 1, 1}, {2, 3, 1, 2, 2},
	} {
		tips, e := rod.Cover(x.cols, x.rows, x.reach)
		list, f := rod.Scattered(x.cols, x.rows, x.reach)
		if len(tips) != x.tips || len(list) != x.far || e != api.OK || f != api.OK {
			t.Error(x, "is covered by", tips, e, "and has scattered", list, f)
		}
	}
}

func TestErrorsOfCoverAndScattered(t *testing.T) {
	for _, x := range []struct {
		cols, rows, reach int
		want              api.Errno
	}{
		{0, 1, 1, api.ErrMany}, {6, 1, 1, api.ErrMany}, {1, 0, 1, api.ErrMany}, {1, 6, 1, api.ErrMany}, {-1, 1, 1, api.ErrMany}, {1, -1, 1, api.ErrMany},
		{math.MaxInt, 1, 1, api.ErrMany}, {1, math.MinInt, 1, api.ErrMany}, {0, 1, 9, api.ErrMany}, {1, 6, -1, api.ErrMany}, {-3, -3, 1, api.ErrMany},
		{1, 1, 4, api.ErrRange}, {1, 1, -1, api.ErrRange}, {5, 5, math.MaxInt, api.ErrRange}, {5, 5, math.MinInt, api.ErrRange},
	} {
		tips, e := rod.Cover(x.cols, x.rows, x.reach)
		list, f := rod.Scattered(x.cols, x.rows, x.reach)
		if e != x.want || f != x.want || len(tips) != 0 || len(list) != 0 {
			t.Error(x, "has errors", e, f, "and results", tips, list)
		}
	}
}
