package rod_test

import (
	"math"
	"math/rand/v2"
	"slices"
	"testing"

	"staddle/api"
	"staddle/rod"
)

// call is a function that takes a bin, with its other arguments as they are given, and says whether its result is zero.
type call struct {
	name string
	do   func(b rod.Bin) (zero bool, e api.Errno)
}

// others are arguments beside a bin.
type others struct {
	heats []int
	tip   rod.Cell
	reach int
	warm  []rod.Cell
	rods  []int
	one   rod.Rod
}

// calls are all functions that take a bin but Check.
func calls(o others) []call {
	numbers := func(f func(b rod.Bin) ([]int, api.Errno)) func(b rod.Bin) (bool, api.Errno) {
		return func(b rod.Bin) (bool, api.Errno) { l, e := f(b); return len(l) == 0, e }
	}
	places := func(f func(b rod.Bin) ([]rod.Cell, api.Errno)) func(b rod.Bin) (bool, api.Errno) {
		return func(b rod.Bin) (bool, api.Errno) { l, e := f(b); return len(l) == 0, e }
	}
	return []call{
		{"Feels", func(b rod.Bin) (bool, api.Errno) { n, e := rod.Feels(b, o.heats, o.tip, o.reach); return n == 0, e }},
		{"Fits", func(b rod.Bin) (bool, api.Errno) { is, e := rod.Fits(b, o.heats); return !is, e }},
		{"Most", numbers(rod.Most)},
		{"Least", numbers(rod.Least)},
		{"Explains", numbers(func(b rod.Bin) ([]int, api.Errno) { return rod.Explains(b, o.tip) })},
		{"Fewest", places(rod.Fewest)},
		{"Lay", numbers(func(b rod.Bin) ([]int, api.Errno) { return rod.Lay(b, o.warm) })},
		{"Apart", numbers(rod.Apart)},
		{"Warm", places(rod.Warm)},
		{"Open", places(rod.Open)},
		{"Leaves", func(b rod.Bin) (bool, api.Errno) { s, e := rod.Leaves(b, o.tip, o.reach); return s == api.Span{}, e }},
		{"Next", func(b rod.Bin) (bool, api.Errno) { c, e := rod.Next(b, o.reach); return c == rod.Cell{}, e }},
		{"Agree", func(b rod.Bin) (bool, api.Errno) { is, e := rod.Agree(b, o.rods); return !is, e }},
		{"Clash", numbers(rod.Clash)},
		{"Blind", places(rod.Blind)},
		{"Put", func(b rod.Bin) (bool, api.Errno) { c, e := rod.Put(b, o.one); return sameBin(c, rod.Bin{}), e }},
	}
}

// strange are arguments that are not allowed, for which each call that takes one has an error of its own.
func strange() others {
	return others{heats: []int{-1}, tip: cell(9, 9), reach: 9, warm: cells(cell(9, 9), cell(9, 9)), rods: []int{99, 99}, one: put(9, 9, 9, 99)}
}

func TestErrorsOfBinsComeFirst(t *testing.T) {
	many, nowhere, far, hot := barn(0, 2, 3), barn(0, 2, 3), barn(0, 2, 3), barn(0, 2, 3)
	many.Cols, many.Rods[0].Range = 3, -1
	many.Rows = 0
	nowhere.Rods[2].Tip.Row, nowhere.Rods[0].Range = 3, 4
	far.Rods[2].Range = 4
	hot.Rods[2].Shows = 10
	for _, x := range []struct {
		b rod.Bin
		e api.Errno
	}{{rod.Bin{}, api.ErrMany}, {many, api.ErrMany}, {nowhere, api.ErrNot}, {far, api.ErrRange}, {hot, api.ErrRange}} {
		if e := rod.Check(x.b); e != x.e {
			t.Error("Check has error", e, "and should have", x.e)
		}
		for _, call := range calls(strange()) {
			if zero, e := call.do(x.b); e != x.e || !zero {
				t.Error(call.name, "has error", e, "and should have", x.e, "; its result is zero:", zero)
			}
		}
	}
}

// TestErrorsOfArgumentsComeBeforeClashes asks of a bin that no heats fit.
func TestErrorsOfArgumentsComeBeforeClashes(t *testing.T) {
	const ok, no, many, far, twice, clash = api.OK, api.ErrNot, api.ErrMany, api.ErrRange, api.ErrTwice, api.ErrClash
	allowed := others{heats: make([]int, 12), tip: cell(3, 2), reach: 3, warm: cells(cell(1, 1)), rods: []int{0, 2, 1}, one: put(3, 2, 3, 9)}
	reach, twofold, hot := allowed, allowed, allowed
	reach.reach, reach.one.Range = 4, 4
	twofold.warm, twofold.rods, twofold.one.Shows = cells(cell(1, 1), cell(1, 1)), []int{0, 0}, -1
	hot.heats, hot.tip, hot.reach = slices.Repeat([]int{10}, 12), cell(0, 3), 4
	for _, x := range []struct {
		name string
		o    others
		want map[string]api.Errno
	}{
		{"strange", strange(), map[string]api.Errno{"Feels": many, "Fits": many, "Explains": no, "Lay": no, "Leaves": no, "Next": far, "Agree": no, "Put": no}},
		{"hot", hot, map[string]api.Errno{"Feels": far, "Fits": far, "Explains": no, "Lay": clash, "Leaves": no, "Next": far, "Agree": ok, "Put": ok}},
		{"reach", reach, map[string]api.Errno{"Feels": far, "Fits": ok, "Explains": clash, "Lay": clash, "Leaves": far, "Next": far, "Agree": ok, "Put": far}},
		{"twofold", twofold, map[string]api.Errno{"Feels": ok, "Fits": ok, "Explains": clash, "Lay": twice, "Leaves": clash, "Next": clash, "Agree": twice, "Put": far}},
		{"allowed", allowed, map[string]api.Errno{"Feels": ok, "Fits": ok, "Explains": clash, "Lay": clash, "Leaves": clash, "Next": clash, "Agree": ok, "Put": ok}},
	} {
		for name, e := range map[string]api.Errno{"Most": clash, "Least": clash, "Fewest": clash, "Apart": clash, "Warm": clash, "Open": clash, "Clash": ok, "Blind": ok} {
			x.want[name] = e
		}
		for _, call := range calls(x.o) {
			zero, e := call.do(barn(0, 2, 3))
			if e != x.want[call.name] || e != api.OK && !zero {
				t.Error(x.name, ":", call.name, "has error", e, "and should have", x.want[call.name], "; its result is zero:", zero)
			}
		}
	}
}

// someOthers returns arguments that are allowed, but the rod may be one too many.
func someOthers(r *rand.Rand, b rod.Bin) others {
	all := allCells(b)
	o := others{heats: someHeats(r, b), tip: all[r.IntN(len(all))], reach: r.IntN(rod.MaxRange + 1), rods: r.Perm(len(b.Rods))}
	for _, i := range r.Perm(len(all))[:r.IntN(len(all)+1)] {
		o.warm = append(o.warm, all[i])
	}
	o.one = rod.Rod{Tip: o.tip, Range: o.reach, Shows: r.IntN(rod.MaxHeat + 1)}
	return o
}

// roomFor returns a list with room for more than is allowed beyond its end.
func roomFor[T any](list []T) []T { return append(make([]T, 0, len(list)+20), list...) }

// isBare says whether a list has nothing beyond its end.
func isBare[T comparable](list []T) bool {
	var none T
	return !slices.ContainsFunc(list[len(list):cap(list)], func(x T) bool { return x != none })
}

func TestNothingIsChangedAndNothingIsKept(t *testing.T) {
	for _, make := range []func(r *rand.Rand) rod.Bin{smallBin, bigBin, coolBin} {
		trials(t, 100, make, func(r *rand.Rand, b rod.Bin) {
			b.Rods = roomFor(b.Rods)
			b0 := copyBin(b)
			o := someOthers(r, b)
			o.heats, o.warm, o.rods = roomFor(o.heats), roomFor(o.warm), roomFor(o.rods)
			heats, warm, rods := slices.Clone(o.heats), slices.Clone(o.warm), slices.Clone(o.rods)
			for _, call := range calls(o) {
				zero, e := call.do(b)
				again, f := call.do(b0)
				if zero != again || e != f {
					t.Error(call.name, "returns something else when it is asked again:", zero, e, again, f)
				}
				if !sameBin(b, b0) || !slices.Equal(o.heats, heats) || !slices.Equal(o.warm, warm) || !slices.Equal(o.rods, rods) {
					t.Error(call.name, "changes an argument")
				}
			}
			if !isBare(b.Rods) || !isBare(o.heats) || !isBare(o.warm) || !isBare(o.rods) {
				t.Error("something was written beyond the end of a list")
			}
		})
	}
}

// TestResultsAreNotKept asks the same twice, and writes over all that was answered first.
func TestResultsAreNotKept(t *testing.T) {
	numbers := func(name string, f func() ([]int, api.Errno)) {
		first, _ := f()
		was := slices.Clone(first)
		for i := range first[:cap(first)] {
			first[:cap(first)][i] = -7
		}
		if again, _ := f(); len(was) == 0 || !slices.Equal(again, was) {
			t.Error(name, "returns", again, "and returned", was)
		}
	}
	places := func(name string, f func() ([]rod.Cell, api.Errno)) {
		first, _ := f()
		was := slices.Clone(first)
		for i := range first[:cap(first)] {
			first[:cap(first)][i] = cell(-7, -7)
		}
		if again, _ := f(); len(was) == 0 || !slices.Equal(again, was) {
			t.Error(name, "returns", again, "and returned", was)
		}
	}
	b := barn(0, 1, 2)
	warm := cells(cell(1, 1), cell(0, 2))
	numbers("Most", func() ([]int, api.Errno) { return rod.Most(b) })
	numbers("Least", func() ([]int, api.Errno) { return rod.Least(b) })
	numbers("Explains", func() ([]int, api.Errno) { return rod.Explains(b, cell(0, 2)) })
	numbers("Lay", func() ([]int, api.Errno) { return rod.Lay(b, warm) })
	numbers("Apart", func() ([]int, api.Errno) { return rod.Apart(b) })
	numbers("Clash", func() ([]int, api.Errno) { return rod.Clash(barn(0, 1, 2, 3)) })
	places("Fewest", func() ([]rod.Cell, api.Errno) { return rod.Fewest(b) })
	places("Warm", func() ([]rod.Cell, api.Errno) { return rod.Warm(b) })
	places("Open", func() ([]rod.Cell, api.Errno) { return rod.Open(b) })
	places("Blind", func() ([]rod.Cell, api.Errno) { return rod.Blind(b) })
	places("Cover", func() ([]rod.Cell, api.Errno) { return rod.Cover(4, 3, 1) })
	places("Scattered", func() ([]rod.Cell, api.Errno) { return rod.Scattered(4, 3, 1) })
	if !sameBin(b, barn(0, 1, 2)) || !slices.Equal(warm, cells(cell(1, 1), cell(0, 2))) {
		t.Error("a result shares memory with an argument:", b, warm)
	}
}

func TestNilListsAreAsEmptyOnes(t *testing.T) {
	bare := bin(1, 2)
	empty := rod.Bin{Cols: 1, Rows: 2, Rods: []rod.Rod{}}
	o := others{heats: []int{3, 9}, one: put(0, 1, 0, 3)}
	same := others{heats: []int{3, 9}, one: put(0, 1, 0, 3), warm: cells(), rods: []int{}}
	for i, call := range calls(o) {
		zero, e := call.do(bare)
		again, f := calls(same)[i].do(empty)
		if zero != again || e != f {
			t.Error(call.name, "returns another result for empty lists:", zero, e, again, f)
		}
	}
}

// TestAnyNumbers calls everything with numbers that are seldom allowed.
func TestAnyNumbers(t *testing.T) {
	r := rand.New(rand.NewPCG(3, 5))
	some := func() int {
		all := []int{math.MinInt, math.MinInt + 1, -2, -1, 4, 5, 6, 9, 10, 25, math.MaxInt - 1, math.MaxInt}
		if r.IntN(12) > 0 {
			return r.IntN(4)
		}
		return all[r.IntN(len(all))]
	}
	list := func() []int {
		var all []int
		for range r.IntN(5) {
			all = append(all, some())
		}
		return all
	}
	for range 10000 {
		b := bin(some(), some())
		for range r.IntN(4) {
			b.Rods = append(b.Rods, put(some(), some(), some(), some()))
		}
		o := others{heats: list(), tip: cell(some(), some()), reach: some(), rods: list(), one: put(some(), some(), some(), some())}
		for range r.IntN(4) {
			o.warm = append(o.warm, cell(some(), some()))
		}
		for _, call := range calls(o) {
			if zero, e := call.do(b); e != api.OK && !zero {
				t.Error(call.name, "has a result beside error", e)
			}
		}
		tips, e := rod.Cover(b.Cols, b.Rows, o.reach)
		list, f := rod.Scattered(b.Cols, b.Rows, o.reach)
		if e != f || (e == api.OK) != (len(tips) > 0) || (e == api.OK) != (len(list) > 0) {
			t.Error("Cover and Scattered return", tips, e, list, f)
		}
	}
}
