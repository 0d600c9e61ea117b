package rod_test

import (
	"math"
	"math/rand/v2"
	"testing"

	"staddle/api"
	"staddle/rod"
)

func TestLeavesOfTheExamples(t *testing.T) {
	one := func(tip rod.Cell) rod.Bin { return bin(2, 1, rod.Rod{Tip: tip, Range: 1, Shows: 4}) }
	for _, x := range []struct {
		b        rod.Bin
		col, row int
		reach    int
		want     api.Span
		e        api.Errno
	}{
		{barn(0, 1, 2), 2, 1, 1, span(0, 4), api.OK}, {barn(0, 1, 2), 3, 2, 1, span(0, 9), api.OK}, {barn(0, 1, 2), 0, 2, 0, span(4, 4), api.OK}, {barn(0, 1, 2), 0, 1, 1, span(3, 4), api.OK},
		{barn(0, 1, 2), 1, 1, 2, span(3, 3), api.OK}, {barn(0, 1, 2), 1, 1, 3, span(3, 6), api.OK}, {barn(0, 1, 2), 3, 0, 0, span(0, 0), api.OK}, {barn(0, 1, 2), 1, 2, 0, span(0, 4), api.OK},
		{barn(0, 1, 2), 1, 2, 1, span(3, 4), api.OK}, {barn(0, 1, 2), 2, 2, 2, span(2, 8), api.OK}, {barn(0, 1, 2), 2, 2, 1, span(0, 8), api.OK},
		{bin(2, 1), 0, 0, 1, span(0, 9), api.OK}, {bin(2, 1), 1, 0, 0, span(0, 9), api.OK}, {bin(5, 5), 2, 2, 3, span(0, 9), api.OK},
		{one(cell(0, 0)), 0, 0, 0, span(0, 4), api.OK}, {one(cell(0, 0)), 1, 0, 0, span(0, 5), api.OK}, {one(cell(0, 0)), 1, 0, 1, span(3, 5), api.OK}, {one(cell(0, 0)), 0, 0, 1, span(4, 4), api.OK},
		{ring(), 0, 0, 0, span(0, 2), api.OK}, {ring(), 0, 0, 1, span(2, 2), api.OK}, {ring(), 0, 0, 3, span(2, 2), api.OK}, {ring(), 1, 1, 0, span(0, 4), api.OK}, {ring(), 1, 1, 1, span(2, 4), api.OK},
		{barn(0, 1, 2), 4, 1, 4, span(0, 0), api.ErrNot}, {barn(0, 1, 2), 0, 3, 1, span(0, 0), api.ErrNot}, {barn(0, 1, 2), -1, 0, 1, span(0, 0), api.ErrNot}, {barn(0, 1, 2), 0, -1, 1, span(0, 0), api.ErrNot},
		{barn(0, 1, 2), math.MaxInt, math.MinInt, 1, span(0, 0), api.ErrNot}, {barn(0, 1, 2), 3, 2, 4, span(0, 0), api.ErrRange}, {barn(0, 1, 2), 3, 2, -1, span(0, 0), api.ErrRange},
		{barn(0, 1, 2), 3, 2, math.MaxInt, span(0, 0), api.ErrRange}, {barn(0, 1, 2), 3, 2, math.MinInt, span(0, 0), api.ErrRange},
		{barn(0, 2, 3), 4, 1, 4, span(0, 0), api.ErrNot}, {barn(0, 2, 3), 2, 1, 4, span(0, 0), api.ErrRange}, {barn(0, 2, 3), 2, 1, 1, span(0, 0), api.ErrClash},
	} {
		if got, e := rod.Leaves(x.b, cell(x.col, x.row), x.reach); got != x.want || e != x.e {
			t.Error(x, "leaves", got, e)
		}
	}
}

// ends returns the least and the greatest of some numbers.
func ends(numbers map[int]bool) api.Span {
	s := span(math.MaxInt, math.MinInt)
	for n := range numbers {
		s = span(min(s.Lo, n), max(s.Hi, n))
	}
	return s
}

func TestLeavesIsWhatARodFeelsInSomeHeats(t *testing.T) {
	try := func(r *rand.Rand, b rod.Bin) {
		k := look(b)
		for i, c := range allCells(b) {
			for reach := range rod.MaxRange + 1 {
				want, e := span(0, 0), api.ErrClash
				numbers := k.feels[[2]int{i, reach}]
				if k.fits() {
					want, e = ends(numbers), api.OK
				}
				if got, f := rod.Leaves(b, c, reach); got != want || e != f {
					t.Error(b, "a rod at", c, "of Range", reach, "leaves", got, f, "and should leave", want, e)
				}
				if k.fits() && len(numbers) != want.Hi-want.Lo+1 {
					t.Error(b, "a rod at", c, "of Range", reach, "leaves not all of", want)
				}
			}
		}
	}
	trials(t, 250, smallBin, try)
	trials(t, 8, longBin, try)
}

// TestLeavesIsWhatOneRodMoreCanShow puts one rod more into bins as great as can be, with each number that it could show.
func TestLeavesIsWhatOneRodMoreCanShow(t *testing.T) {
	fits, narrow := 0, 0
	trials(t, 250, bigBin, func(r *rand.Rand, b rod.Bin) {
		if _, e := rod.Most(b); e != api.OK {
			return
		}
		fits++
		for _, c := range allCells(b) {
			reach := r.IntN(rod.MaxRange + 1)
			numbers := map[int]bool{}
			for n := range rod.MaxHeat + 1 {
				more := copyBin(b)
				more.Rods = append(more.Rods, rod.Rod{Tip: c, Range: reach, Shows: n})
				if fit(more, bounded(more, 1<<len(more.Rods)-1)) {
					numbers[n] = true
				}
			}
			got, e := rod.Leaves(b, c, reach)
			if got != ends(numbers) || e != api.OK {
				t.Error(b, "a rod at", c, "of Range", reach, "leaves", got, e, "and should leave", ends(numbers))
			}
			if got.Lo > 0 && got.Hi > got.Lo {
				narrow++
			}
		}
	})
	if fits < 100 || narrow < 100 {
		t.Error("just", fits, "bins have heats that fit, and just", narrow, "tips leave several numbers but not 0")
	}
}

func TestNextOfTheExamples(t *testing.T) {
	for _, x := range []struct {
		name  string
		b     rod.Bin
		reach int
		want  rod.Cell
		e     api.Errno
	}{
		{"example 4", barn(0, 1, 2), 1, cell(3, 2), api.OK},
		{"the same with Range 0", barn(0, 1, 2), 0, cell(3, 2), api.OK},
		{"no rods", bin(3, 3), 2, cell(0, 0), api.OK},
		{"the first of two in a row", bin(3, 1, put(0, 0, 0, 1)), 0, cell(1, 0), api.OK},
		{"the first one in order is by row", bin(2, 2, put(0, 0, 0, 1)), 0, cell(1, 0), api.OK},
		{"the first one is in the second row", bin(2, 2, put(0, 0, 0, 1), put(1, 0, 0, 1)), 0, cell(0, 1), api.OK},
		{"a later one leaves more", bin(2, 1, put(0, 0, 1, 4)), 0, cell(1, 0), api.OK},
		{"all cells are cool", bin(2, 1, put(0, 0, 0, 0), put(1, 0, 0, 0), put(0, 0, 1, 0)), 0, cell(0, 0), api.ErrNone},
		{"a greater number, but the same one always", bin(3, 1, put(0, 0, 0, 9), put(1, 0, 0, 0), put(1, 0, 1, 8), put(2, 0, 0, 1)), 0, cell(0, 0), api.ErrNone},
		{"all is told", bin(2, 1, put(0, 0, 0, 3), put(1, 0, 0, 2)), 1, cell(0, 0), api.ErrNone},
		{"nothing is left for a great Range, though a cell is open", bin(2, 1, put(0, 0, 0, 9), put(1, 0, 1, 8)), 1, cell(0, 0), api.ErrNone},
		{"something is left for a small one", bin(2, 1, put(0, 0, 0, 9), put(1, 0, 1, 8)), 0, cell(1, 0), api.OK},
		{"a single number more", bin(2, 1, put(0, 0, 0, 9)), 1, cell(1, 0), api.OK},
		{"Range 3", bin(2, 1), 3, cell(0, 0), api.OK},
		{"Range 4", bin(2, 1), 4, cell(0, 0), api.ErrRange},
		{"Range -1", bin(2, 1), -1, cell(0, 0), api.ErrRange},
		{"a Range where no number is greater", bin(2, 1), math.MaxInt, cell(0, 0), api.ErrRange},
		{"rods that clash, and Range 4", barn(0, 2, 3), 4, cell(0, 0), api.ErrRange},
		{"rods that clash", barn(0, 2, 3), 1, cell(0, 0), api.ErrClash},
	} {
		if got, e := rod.Next(x.b, x.reach); got != x.want || e != x.e {
			t.Error(x.name, "has next", got, e, "and should have", x.want, x.e)
		}
	}
}

func TestNextIsTheFirstTipThatLeavesTheMost(t *testing.T) {
	count := map[api.Errno]int{}
	try := func(r *rand.Rand, b rod.Bin, k known) {
		for reach := range rod.MaxRange + 1 {
			want, e, most := cell(0, 0), api.ErrClash, 0
			if k.fits() {
				e = api.ErrNone
				for i, c := range allCells(b) {
					s := ends(k.feels[[2]int{i, reach}])
					if s.Hi-s.Lo > most {
						want, e, most = c, api.OK, s.Hi-s.Lo
					}
				}
			}
			if got, f := rod.Next(b, reach); got != want || e != f {
				t.Error(b, "of Range", reach, "has next", got, f, "and should have", want, e)
			}
			count[e]++
		}
	}
	trials(t, 250, smallBin, func(r *rand.Rand, b rod.Bin) { try(r, b, look(b)) })
	trials(t, 250, bigBin, func(r *rand.Rand, b rod.Bin) {
		k := reckon(b)
		k.feels = map[[2]int]map[int]bool{}
		for i, c := range allCells(b) {
			for reach := range rod.MaxRange + 1 {
				s, _ := rod.Leaves(b, c, reach)
				k.feels[[2]int{i, reach}] = map[int]bool{s.Lo: true, s.Hi: true}
			}
		}
		try(r, b, k)
	})
	if count[api.OK] < 100 || count[api.ErrNone] < 50 || count[api.ErrClash] < 100 {
		t.Error("bins seldom have an end:", count)
	}
}
