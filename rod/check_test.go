package rod_test

import (
	"math"
	"math/rand/v2"
	"slices"
	"testing"

	"staddle/api"
	"staddle/rod"
)

func TestCheckAtTheLimits(t *testing.T) {
	rods := func(n int) []rod.Rod { return slices.Repeat([]rod.Rod{put(0, 0, 1, 1)}, n) }
	for _, x := range []struct {
		name string
		b    rod.Bin
		want api.Errno
	}{
		{"the bin of the examples", barn(0, 1, 2), api.OK},
		{"a bin that clashes", barn(0, 2, 3), api.OK},
		{"a bin with all that is allowed", full(), api.OK},
		{"one cell", bin(1, 1), api.OK},
		{"no bin", rod.Bin{}, api.ErrMany},
		{"no columns", bin(0, 1), api.ErrMany},
		{"no rows", bin(1, 0), api.ErrMany},
		{"fewer columns than none", bin(-1, 1), api.ErrMany},
		{"fewer rows than none", bin(1, -1), api.ErrMany},
		{"5 columns", bin(5, 1), api.OK},
		{"5 rows", bin(1, 5), api.OK},
		{"6 columns", bin(6, 1), api.ErrMany},
		{"6 rows", bin(1, 6), api.ErrMany},
		{"the most columns of all", bin(math.MaxInt, 1), api.ErrMany},
		{"the fewest rows of all", bin(1, math.MinInt), api.ErrMany},
		{"8 rods", bin(1, 1, rods(8)...), api.OK},
		{"9 rods", bin(1, 1, rods(9)...), api.ErrMany},
		{"the last cell", bin(4, 3, put(3, 2, 0, 0)), api.OK},
		{"a column too many", bin(4, 3, put(4, 0, 0, 0)), api.ErrNot},
		{"a row too many", bin(4, 3, put(0, 3, 0, 0)), api.ErrNot},
		{"a column before the first", bin(4, 3, put(-1, 0, 0, 0)), api.ErrNot},
		{"a row before the first", bin(4, 3, put(0, -1, 0, 0)), api.ErrNot},
		{"a tip where no number is greater", bin(4, 3, put(math.MaxInt, math.MaxInt, 0, 0)), api.ErrNot},
		{"a tip where no number is less", bin(4, 3, put(math.MinInt, math.MinInt, 0, 0)), api.ErrNot},
		{"the tip of the last rod", bin(4, 3, put(0, 0, 0, 0), put(1, 1, 0, 0), put(4, 0, 0, 0)), api.ErrNot},
		{"Range 0", bin(4, 3, put(0, 0, 0, 1)), api.OK},
		{"Range 3", bin(4, 3, put(0, 0, 3, 1)), api.OK},
		{"Range 4", bin(4, 3, put(0, 0, 4, 1)), api.ErrRange},
		{"Range -1", bin(4, 3, put(0, 0, -1, 1)), api.ErrRange},
		{"Shows 0", bin(4, 3, put(0, 0, 1, 0)), api.OK},
		{"Shows 9", bin(4, 3, put(0, 0, 1, 9)), api.OK},
		{"Shows 10", bin(4, 3, put(0, 0, 1, 10)), api.ErrRange},
		{"Shows -1", bin(4, 3, put(0, 0, 1, -1)), api.ErrRange},
		{"the Range of the last rod", bin(4, 3, put(0, 0, 1, 1), put(0, 0, math.MaxInt, 1)), api.ErrRange},
		{"what the last rod shows", bin(4, 3, put(0, 0, 1, 1), put(0, 0, 1, math.MinInt)), api.ErrRange},
	} {
		if e := rod.Check(x.b); e != x.want {
			t.Error(x.name, "has error", e, "and should have", x.want)
		}
	}
}

// TestTheFirstErrorOfABinDecides lays each error before those that the chapter names later, at other rods.
func TestTheFirstErrorOfABinDecides(t *testing.T) {
	wrong := []struct {
		e       api.Errno
		changes []func(b *rod.Bin)
	}{
		{api.ErrMany, []func(b *rod.Bin){
			func(b *rod.Bin) { b.Cols = 0 },
			func(b *rod.Bin) { b.Cols = 6 },
			func(b *rod.Bin) { b.Rows = 0 },
			func(b *rod.Bin) { b.Rows = 6 },
			func(b *rod.Bin) { b.Rods = slices.Repeat(b.Rods, 3) },
		}},
		{api.ErrNot, []func(b *rod.Bin){
			func(b *rod.Bin) { b.Rods[2].Tip.Col = 4 },
			func(b *rod.Bin) { b.Rods[2].Tip.Row = -1 },
		}},
		{api.ErrRange, []func(b *rod.Bin){
			func(b *rod.Bin) { b.Rods[0].Range = 4 },
			func(b *rod.Bin) { b.Rods[0].Shows = 10 },
			func(b *rod.Bin) { b.Rods[1].Range = -1 },
			func(b *rod.Bin) { b.Rods[2].Shows = -1 },
		}},
	}
	for i, x := range wrong {
		for j, first := range x.changes {
			b := barn(0, 1, 2)
			for _, later := range wrong[i+1:] {
				for _, change := range later.changes {
					change(&b)
				}
			}
			first(&b)
			if e := rod.Check(b); e != x.e {
				t.Error("change", j, "before all that comes later has error", e, "and should have", x.e)
			}
		}
	}
}

func TestPutAddsARod(t *testing.T) {
	seven := full()
	seven.Rods = seven.Rods[:7]
	for _, x := range []struct {
		name string
		b    rod.Bin
		r    rod.Rod
		want api.Errno
	}{
		{"the first rod", bin(1, 1), put(0, 0, 0, 9), api.OK},
		{"the third rod", barn(0, 1), put(0, 2, 1, 4), api.OK},
		{"the last rod", seven, put(4, 4, 3, 0), api.OK},
		{"the same rod once more", barn(0), put(1, 1, 2, 3), api.OK},
		{"a rod that clashes", barn(0, 2), put(0, 2, 0, 0), api.OK},
		{"a rod too many", full(), put(0, 0, 0, 0), api.ErrFull},
		{"a rod too many that is not allowed", full(), put(9, 9, 9, 99), api.ErrFull},
		{"a rod too many of a bin that is not allowed", bin(0, 1, full().Rods...), put(9, 9, 9, 99), api.ErrMany},
		{"a rod too many of a bin whose tips are none", bin(4, 5, full().Rods...), put(0, 0, 0, 0), api.ErrNot},
		{"a rod where no cell is", barn(0), put(4, 0, 9, 99), api.ErrNot},
		{"a rod of too great a Range", barn(0), put(3, 2, 4, 0), api.ErrRange},
		{"a rod that shows too much", barn(0), put(3, 2, 3, 10), api.ErrRange},
		{"a rod that shows too little", barn(0), put(3, 2, 3, -1), api.ErrRange},
		{"a rod of a bin that is not allowed", bin(4, 3, put(0, 0, 4, 0)), put(4, 0, 0, 0), api.ErrRange},
		{"a rod of no bin", rod.Bin{}, put(0, 0, 0, 0), api.ErrMany},
	} {
		got, e := rod.Put(x.b, x.r)
		want := copyBin(x.b)
		want.Rods = append(want.Rods, x.r)
		if x.want != api.OK {
			want = rod.Bin{}
		}
		if e != x.want || !sameBin(got, want) {
			t.Error(x.name, "gives", got, e, "and should give", want, x.want)
		}
	}
}

func TestBinsWithOneMoreAreCopies(t *testing.T) {
	b := barn(0, 1)
	b.Rods = append(make([]rod.Rod, 0, 9), b.Rods...)
	before := copyBin(b)
	one, _ := rod.Put(b, put(0, 2, 1, 4))
	two, _ := rod.Put(b, put(0, 2, 1, 5))
	if one.Rods[2] != put(0, 2, 1, 4) || two.Rods[2] != put(0, 2, 1, 5) {
		t.Error("rods were written over:", one, two)
	}
	clear(one.Rods)
	clear(two.Rods)
	if !sameBin(b, before) || b.Rods[:3][2] != (rod.Rod{}) {
		t.Error("a bin was changed by what was done to a copy of it:", b)
	}
}

func TestBlindOfTheExamples(t *testing.T) {
	for _, x := range []struct {
		name string
		b    rod.Bin
		want []rod.Cell
	}{
		{"the three rods of the examples", barn(0, 1, 2), cells(cell(3, 2))},
		{"the same in another order", barn(2, 1, 0), cells(cell(3, 2))},
		{"rod 0 alone", barn(0), cells(cell(3, 0), cell(3, 2))},
		{"rods that show nothing", barn(3, 1), cells(cell(0, 0), cell(1, 0), cell(0, 1), cell(1, 1), cell(2, 1), cell(1, 2), cell(2, 2), cell(3, 2))},
		{"no rods", bin(2, 2), cells(cell(0, 0), cell(1, 0), cell(0, 1), cell(1, 1))},
		{"Range 0", bin(3, 1, put(1, 0, 0, 5)), cells(cell(0, 0), cell(2, 0))},
		{"Range 1", bin(3, 1, put(1, 0, 1, 5)), nil},
		{"Range 3 in a row", bin(5, 1, put(0, 0, 3, 5)), cells(cell(4, 0))},
		{"Range 3 round a corner", bin(3, 3, put(0, 0, 3, 0)), cells(cell(2, 2))},
		{"rods that clash", barn(0, 1, 2, 3), cells(cell(3, 2))},
		{"a bin with all that is allowed", full(), nil},
	} {
		if got, e := rod.Blind(x.b); !slices.Equal(got, x.want) || e != api.OK {
			t.Error("by", x.name, "are blind", got, e, "and should be", x.want)
		}
	}
}

func TestBlindCellsAreThoseThatNoRodReaches(t *testing.T) {
	trials(t, 500, bigBin, func(r *rand.Rand, b rod.Bin) {
		var want []rod.Cell
		for _, c := range allCells(b) {
			if !slices.ContainsFunc(b.Rods, func(x rod.Rod) bool { return far(c, x.Tip) <= x.Range }) {
				want = append(want, c)
			}
		}
		if got, e := rod.Blind(b); !slices.Equal(got, want) || e != api.OK {
			t.Error(b, "is blind at", got, e, "and should be at", want)
		}
	})
}
