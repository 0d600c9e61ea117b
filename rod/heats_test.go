package rod_test

import (
	"math"
	"math/rand/v2"
	"slices"
	"testing"

	"staddle/api"
	"staddle/rod"
)

// warmHeats are heats that fit the bin of the examples, hotHeats the greatest ones that do.
func warmHeats() []int { return []int{0, 0, 0, 0, 0, 3, 0, 0, 4, 0, 0, 0} }

func hotHeats() []int { return []int{5, 4, 1, 0, 4, 3, 4, 1, 4, 4, 5, 9} }

// changed returns heats with another number.
func changed(heats []int, i, n int) []int {
	heats = slices.Clone(heats)
	heats[i] = n
	return heats
}

func TestFeelsOfTheExamples(t *testing.T) {
	for _, x := range []struct {
		heats       []int
		col, row    int
		reach, want int
	}{
		{warmHeats(), 1, 1, 2, 3}, {warmHeats(), 3, 0, 1, 0}, {warmHeats(), 0, 2, 1, 4}, {warmHeats(), 0, 2, 0, 4},
		{warmHeats(), 0, 1, 0, 0}, {warmHeats(), 0, 1, 1, 3}, {warmHeats(), 1, 0, 1, 2}, {warmHeats(), 3, 0, 3, 0}, {warmHeats(), 2, 2, 2, 2}, {warmHeats(), 3, 2, 3, 1}, {warmHeats(), 3, 2, 2, 0},
		{hotHeats(), 1, 1, 2, 3}, {hotHeats(), 1, 1, 3, 6}, {hotHeats(), 3, 0, 1, 0}, {hotHeats(), 3, 2, 0, 9}, {hotHeats(), 3, 1, 0, 1}, {hotHeats(), 3, 1, 1, 8}, {hotHeats(), 0, 0, 3, 5},
		{make([]int, 12), 1, 1, 3, 0}, {slices.Repeat([]int{9}, 12), 0, 0, 3, 9}, {slices.Repeat([]int{1}, 12), 2, 2, 0, 1},
		{changed(make([]int, 12), 11, 4), 3, 0, 2, 2}, {changed(make([]int, 12), 11, 4), 3, 0, 1, 0}, {changed(make([]int, 12), 11, 4), 1, 1, 3, 1}, {changed(make([]int, 12), 11, 4), 0, 2, 3, 1}, {changed(make([]int, 12), 11, 2), 0, 2, 3, 0},
	} {
		if n, e := rod.Feels(barn(0, 1, 2), x.heats, cell(x.col, x.row), x.reach); n != x.want || e != api.OK {
			t.Error(x, "feels", n, e)
		}
	}
}

func TestFitsOfTheExamples(t *testing.T) {
	for _, x := range []struct {
		name string
		b    rod.Bin
		l    []int
		want bool
	}{
		{"two warm cells", barn(0, 1, 2), warmHeats(), true},
		{"the greatest heats", barn(0, 1, 2), hotHeats(), true},
		{"no heats", barn(0, 1, 2), make([]int, 12), false},
		{"no heats, and nothing shown", barn(1, 3), make([]int, 12), true},
		{"no heats, and no rods", barn(), make([]int, 12), true},
		{"all heats, and no rods", barn(), slices.Repeat([]int{9}, 12), true},
		{"rod 0 feels less", barn(0, 1, 2), changed(warmHeats(), 5, 2), false},
		{"rod 0 feels more", barn(0, 1, 2), changed(warmHeats(), 5, 4), false},
		{"rod 2 feels less", barn(0, 1, 2), changed(warmHeats(), 8, 3), false},
		{"rod 2 feels more", barn(0, 1, 2), changed(warmHeats(), 8, 5), false},
		{"rod 1 feels more, of a neighbour", barn(0, 1, 2), changed(warmHeats(), 2, 2), false},
		{"rod 1 feels nothing of a neighbour", barn(0, 1, 2), changed(warmHeats(), 2, 1), true},
		{"a cell that no rod reaches", barn(0, 1, 2), changed(warmHeats(), 11, 9), true},
		{"another cell explains rod 0", barn(0, 1, 2), changed(changed(warmHeats(), 5, 0), 10, 5), true},
		{"rods that clash", barn(0, 2, 3), warmHeats(), false},
	} {
		if is, e := rod.Fits(x.b, x.l); is != x.want || e != api.OK {
			t.Error(x.name, "fits:", is, e)
		}
	}
}

func TestErrorsOfHeats(t *testing.T) {
	for _, x := range []struct {
		name string
		l    []int
		want api.Errno
	}{
		{"no heats", nil, api.ErrMany}, {"a heat too few", warmHeats()[1:], api.ErrMany}, {"a heat too many", append(warmHeats(), 0), api.ErrMany},
		{"heats of the greatest bin", make([]int, 25), api.ErrMany}, {"more heats than any bin has", make([]int, 26), api.ErrMany},
		{"a heat too few, and one too great", []int{10}, api.ErrMany}, {"the greatest heat", changed(warmHeats(), 11, 9), api.OK},
		{"a heat too great", changed(warmHeats(), 0, 10), api.ErrRange}, {"a last heat too small", changed(warmHeats(), 11, -1), api.ErrRange},
		{"a heat where no number is greater", changed(warmHeats(), 11, math.MaxInt), api.ErrRange}, {"a heat where no number is less", changed(warmHeats(), 0, math.MinInt), api.ErrRange},
	} {
		is, e := rod.Fits(barn(0, 1, 2), x.l)
		n, f := rod.Feels(barn(0, 1, 2), x.l, cell(1, 1), 2)
		if e != x.want || f != x.want || e != api.OK && (is || n != 0) {
			t.Error(x.name, "has errors", e, f, "and should have", x.want, "; results", is, n)
		}
	}
}

func TestErrorsOfATipThatFeels(t *testing.T) {
	for _, x := range []struct {
		l     []int
		tip   rod.Cell
		reach int
		want  api.Errno
	}{
		{warmHeats(), cell(3, 2), 3, api.OK}, {warmHeats(), cell(0, 0), 0, api.OK},
		{warmHeats(), cell(4, 2), 0, api.ErrNot}, {warmHeats(), cell(3, 3), 0, api.ErrNot}, {warmHeats(), cell(-1, 0), 0, api.ErrNot}, {warmHeats(), cell(0, -1), 0, api.ErrNot},
		{warmHeats(), cell(math.MaxInt, math.MinInt), 0, api.ErrNot}, {warmHeats(), cell(4, 2), 4, api.ErrNot},
		{warmHeats(), cell(3, 2), 4, api.ErrRange}, {warmHeats(), cell(3, 2), -1, api.ErrRange}, {warmHeats(), cell(3, 2), math.MaxInt, api.ErrRange}, {warmHeats(), cell(3, 2), math.MinInt, api.ErrRange},
		{warmHeats()[1:], cell(4, 2), 4, api.ErrMany}, {changed(warmHeats(), 3, 10), cell(4, 2), 4, api.ErrRange},
	} {
		if n, e := rod.Feels(barn(0, 1, 2), x.l, x.tip, x.reach); e != x.want || e != api.OK && n != 0 {
			t.Error(x, "has error", e, "and feels", n)
		}
	}
}

func TestFeelsAndFitsOfAnyHeats(t *testing.T) {
	count := map[bool]int{}
	trials(t, 1000, bigBin, func(r *rand.Rand, b rod.Bin) {
		heats := someHeats(r, b)
		if most, e := rod.Most(b); e == api.OK {
			heats = most
			for range r.IntN(6) {
				heats[r.IntN(len(heats))] = r.IntN(rod.MaxHeat + 1)
			}
		}
		for _, c := range allCells(b) {
			for reach := range rod.MaxRange + 1 {
				if n, e := rod.Feels(b, heats, c, reach); n != felt(b, heats, c, reach) || e != api.OK {
					t.Error(b, heats, "a rod at", c, "of Range", reach, "feels", n, e)
				}
			}
		}
		is, e := rod.Fits(b, heats)
		if is != fit(b, heats) || e != api.OK {
			t.Error(b, heats, "fits:", is, e)
		}
		count[is]++
	})
	if count[true] < 100 || count[false] < 100 {
		t.Error("heats seldom fit, or seldom do not:", count)
	}
}

func TestMostAndLeastOfTheExamples(t *testing.T) {
	nines := slices.Repeat([]int{9}, 25)
	for _, x := range []struct {
		name        string
		b           rod.Bin
		most, least []int
		e           api.Errno
	}{
		{"the bin of the examples", barn(0, 1, 2), hotHeats(), []int{0, 0, 0, 0, 0, 0, 0, 0, 4, 0, 0, 0}, api.OK},
		{"the same in another order", barn(2, 0, 1), hotHeats(), []int{0, 0, 0, 0, 0, 0, 0, 0, 4, 0, 0, 0}, api.OK},
		{"no rods", bin(5, 5), nines, make([]int, 25), api.OK},
		{"one cell", bin(1, 1, put(0, 0, 3, 7)), []int{7}, []int{7}, api.OK},
		{"one cell that is cool", bin(1, 1, put(0, 0, 0, 0)), []int{0}, []int{0}, api.OK},
		{"no heat is more than 9", bin(3, 1, put(0, 0, 2, 9)), []int{9, 9, 9}, []int{9, 0, 0}, api.OK},
		{"two cells can be hot enough, the third one cannot", bin(3, 1, put(0, 0, 2, 8)), []int{8, 9, 9}, []int{0, 0, 0}, api.OK},
		{"a rod bounds what is less by another", bin(3, 1, put(0, 0, 0, 5), put(2, 0, 2, 3)), []int{5, 4, 3}, []int{5, 0, 0}, api.OK},
		{"each of two cells explains alone", bin(2, 1, put(0, 0, 0, 1), put(1, 0, 0, 2)), []int{1, 2}, []int{1, 2}, api.OK},
		{"rods that are beside each other", bin(2, 1, put(1, 0, 0, 0), put(0, 0, 0, 2), put(1, 0, 1, 2)), nil, nil, api.ErrClash},
		{"example 5", barn(0, 2, 3), nil, nil, api.ErrClash},
		{"two numbers at one tip", bin(2, 2, put(0, 1, 0, 3), put(0, 1, 0, 4)), nil, nil, api.ErrClash},
	} {
		most, e := rod.Most(x.b)
		least, f := rod.Least(x.b)
		if !slices.Equal(most, x.most) || !slices.Equal(least, x.least) || e != x.e || f != x.e {
			t.Error(x.name, "has heats", least, "to", most, e, f, "and should have", x.least, "to", x.most, x.e)
		}
	}
}

func TestMostAndLeastAreTheEndsOfAllHeatsThatFit(t *testing.T) {
	count := map[bool]int{}
	searched(t, func(r *rand.Rand, b rod.Bin, k known) {
		want := api.OK
		if !k.fits() {
			want = api.ErrClash
		}
		most, e := rod.Most(b)
		least, f := rod.Least(b)
		if !slices.Equal(most, k.most) || !slices.Equal(least, k.least) || e != want || f != want {
			t.Error(b, "has heats", least, "to", most, e, f, "and should have", k.least, "to", k.most, want)
		}
		count[k.fits()]++
	})
	if count[true] < 100 || count[false] < 100 {
		t.Error("rods seldom agree, or seldom do not:", count)
	}
}
