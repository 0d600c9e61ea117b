package stock_test

import (
	"math"
	"math/rand/v2"
	"slices"
	"testing"

	"staddle/api"
	"staddle/stock"
)

// call is a function that takes a yard, with its other arguments as they are given, and says whether its result is zero.
type call struct {
	name string
	do   func(y stock.Yard) (zero bool, e api.Errno)
}

// others are arguments beside a yard.
type others struct {
	a                 stock.Amounts
	bin, move         int
	time, sacks       int
	p                 stock.Proof
	levels            []int
	oneLevel, oneMove api.Span
}

func noAmounts(a stock.Amounts) bool { return len(a.First) == 0 && len(a.Moved) == 0 }

// calls are all functions but Check.
func calls(o others) []call {
	return []call{
		{"Contents", func(y stock.Yard) (bool, api.Errno) { l, e := stock.Contents(y, o.a); return len(l) == 0, e }},
		{"Fits", func(y stock.Yard) (bool, api.Errno) { is, e := stock.Fits(y, o.a); return !is, e }},
		{"Some", func(y stock.Yard) (bool, api.Errno) { a, e := stock.Some(y); return noAmounts(a), e }},
		{"Bounds", func(y stock.Yard) (bool, api.Errno) { l, e := stock.Bounds(y, o.bin); return len(l) == 0, e }},
		{"Moved", func(y stock.Yard) (bool, api.Errno) { s, e := stock.Moved(y, o.move); return s == api.Span{}, e }},
		{"Whole", func(y stock.Yard) (bool, api.Errno) { l, e := stock.Whole(y); return len(l) == 0, e }},
		{"Shown", func(y stock.Yard) (bool, api.Errno) {
			a, e := stock.Shown(y, o.bin, o.time, o.sacks)
			return noAmounts(a), e
		}},
		{"Surely", func(y stock.Yard) (bool, api.Errno) { n, e := stock.Surely(y, o.bin, o.sacks); return n == 0, e }},
		{"Perhaps", func(y stock.Yard) (bool, api.Errno) { n, e := stock.Perhaps(y, o.bin, o.sacks); return n == 0, e }},
		{"Prove", func(y stock.Yard) (bool, api.Errno) { p, e := stock.Prove(y); return len(p.Cells) == 0 && !p.Out, e }},
		{"Proves", func(y stock.Yard) (bool, api.Errno) { n, e := stock.Proves(y, o.p); return n == 0, e }},
		{"Agree", func(y stock.Yard) (bool, api.Errno) { is, e := stock.Agree(y, o.levels); return !is, e }},
		{"Clash", func(y stock.Yard) (bool, api.Errno) { l, e := stock.Clash(y); return len(l) == 0, e }},
		{"Wrong", func(y stock.Yard) (bool, api.Errno) { l, e := stock.Wrong(y); return len(l) == 0, e }},
		{"Measure", func(y stock.Yard) (bool, api.Errno) {
			z, e := stock.Measure(y, stock.Level{Day: o.time, Bin: o.bin, Sacks: o.oneLevel})
			return sameYard(z, stock.Yard{}), e
		}},
		{"Carry", func(y stock.Yard) (bool, api.Errno) {
			z, e := stock.Carry(y, stock.Move{Day: o.time, From: o.bin, To: stock.Outside, Sacks: o.oneMove})
			return sameYard(z, stock.Yard{}), e
		}},
	}
}

// strange are arguments that are not allowed, for which each call has an error of its own in the end.
func strange() others {
	return others{
		a: amounts([]int{-1}, []int{-1}), bin: 9, move: 99, time: 9, sacks: -9,
		p: stock.Proof{Cells: cells(cell(9, 9), cell(0, 0))}, levels: []int{99, 99}, oneLevel: span(-2, -9), oneMove: span(-2, -9),
	}
}

func TestErrorsOfYardsComeFirst(t *testing.T) {
	many, far, nowhere, round, wrongWay := barn(0, 1), barn(0, 1), barn(0, 1), barn(0, 1), barn(0, 1)
	many.Days, many.Bins[0].Holds = 0, -1
	far.Bins[0].Holds, far.Levels[0].Bin = -1, 9
	nowhere.Levels[0].Bin, nowhere.Moves[1].To = 9, 0
	round.Moves[1].To, round.Bins[0].First = 0, span(3, 2)
	wrongWay.Bins[0].First = span(3, 2)
	for _, x := range []struct {
		y stock.Yard
		e api.Errno
	}{{stock.Yard{}, api.ErrMany}, {many, api.ErrMany}, {far, api.ErrRange}, {nowhere, api.ErrNot}, {round, api.ErrTwice}, {wrongWay, api.ErrOrder}} {
		if e := stock.Check(x.y); e != x.e {
			t.Error("Check has error", e, "and should have", x.e)
		}
		for _, call := range calls(strange()) {
			if zero, e := call.do(x.y); e != x.e || !zero {
				t.Error(call.name, "has error", e, "and should have", x.e, "; its result is zero:", zero)
			}
		}
	}
}

// TestErrorsOfArgumentsComeBeforeClashes asks of a yard that no amounts fit, without any level.
func TestErrorsOfArgumentsComeBeforeClashes(t *testing.T) {
	y := barn(0, 1)
	y.Bins[1].First = span(51, 60)
	want := map[string]api.Errno{
		"Contents": api.ErrMany, "Fits": api.ErrMany, "Some": api.ErrClash, "Bounds": api.ErrNot, "Moved": api.ErrNot, "Whole": api.ErrClash,
		"Shown": api.ErrNot, "Surely": api.ErrNot, "Perhaps": api.ErrNot, "Proves": api.ErrNot, "Agree": api.ErrNot, "Wrong": api.ErrClash,
		"Measure": api.ErrRange, "Carry": api.ErrRange,
	}
	for _, call := range calls(strange()) {
		zero, e := call.do(y)
		if e != want[call.name] || !zero {
			t.Error(call.name, "has error", e, "and should have", want[call.name], "; its result is zero:", zero)
		}
	}
	for _, call := range calls(others{a: amounts([]int{25, 0}, []int{50, 30, 301}), sacks: 301, p: stock.Proof{Cells: cells(cell(0, 1), cell(0, 0))}, levels: []int{1, 1}, oneLevel: span(3, 2), oneMove: span(3, 2)}) {
		want := map[string]api.Errno{
			"Contents": api.ErrRange, "Fits": api.ErrRange, "Some": api.ErrClash, "Bounds": api.ErrClash, "Moved": api.ErrClash, "Whole": api.ErrClash,
			"Shown": api.ErrNone, "Surely": api.ErrRange, "Perhaps": api.ErrRange, "Proves": api.ErrOrder, "Agree": api.ErrTwice, "Wrong": api.ErrClash,
			"Measure": api.ErrOrder, "Carry": api.ErrOrder,
		}
		zero, e := call.do(y)
		if e != want[call.name] || !zero {
			t.Error(call.name, "has error", e, "and should have", want[call.name], "; its result is zero:", zero)
		}
	}
}

func TestNothingIsChangedAndNothingIsKept(t *testing.T) {
	for _, make := range []func(r *rand.Rand) stock.Yard{smallYard, bigYard} {
		trials(t, 60, make, func(r *rand.Rand, y stock.Yard) {
			y.Bins = append(roomFor[stock.Bin](), y.Bins...)
			y.Moves = append(roomFor[stock.Move](), y.Moves...)
			y.Levels = append(roomFor[stock.Level](), y.Levels...)
			y0 := copyYard(y)
			o := others{a: someAmounts(r, y), p: stock.Proof{Cells: someCells(r, y)}, levels: r.Perm(len(y.Levels)), oneLevel: span(1, 5), oneMove: span(1, 5)}
			first, moved, levels, three := slices.Clone(o.a.First), slices.Clone(o.a.Moved), slices.Clone(o.levels), slices.Clone(o.p.Cells)
			for _, call := range calls(o) {
				zero, e := call.do(y)
				again, f := call.do(y0)
				if zero != again || e != f {
					t.Error(call.name, "returns something else when it is asked again:", zero, e, again, f)
				}
				if !sameYard(y, y0) || !slices.Equal(o.a.First, first) || !slices.Equal(o.a.Moved, moved) || !slices.Equal(o.levels, levels) || !slices.Equal(o.p.Cells, three) {
					t.Error(call.name, "changes an argument")
				}
			}
			if !isBare(y.Bins) || !isBare(y.Moves) || !isBare(y.Levels) {
				t.Error("something was written beyond the end of a list")
			}
		})
	}
}

// roomFor returns an empty list with room for more than is allowed.
func roomFor[T any]() []T { return make([]T, 0, 20) }

// isBare says whether a list has nothing beyond its end.
func isBare[T comparable](list []T) bool {
	var none T
	return !slices.ContainsFunc(list[len(list):cap(list)], func(x T) bool { return x != none })
}

func TestResultsAreNotKept(t *testing.T) {
	y := barn(0, 1)
	p, _ := stock.Prove(y)
	clash, _ := stock.Clash(y)
	wrong, _ := stock.Wrong(y)
	some, _ := stock.Some(barn(0))
	bounds, _ := stock.Bounds(barn(0), 0)
	whole, _ := stock.Whole(barn(0))
	clear(p.Cells)
	clear(clash)
	clear(wrong)
	clear(some.First)
	clear(some.Moved)
	clear(bounds)
	clear(whole)
	if p, _ := stock.Prove(y); holdsBy(y, p) < 1 {
		t.Error("a proof was kept:", p)
	}
	if clash, _ := stock.Clash(y); !slices.Equal(clash, []int{0, 1}) {
		t.Error("a clash was kept:", clash)
	}
	if some, _ := stock.Some(barn(0)); !fit(barn(0), some) {
		t.Error("amounts were kept:", some)
	}
	if bounds, _ := stock.Bounds(barn(0), 0); !slices.Equal(bounds, spans(20, 30, 60, 90, 25, 65)) {
		t.Error("bounds were kept:", bounds)
	}
}

func TestNilListsAreAsEmptyOnes(t *testing.T) {
	bare := stock.Yard{Days: 2, Bins: []stock.Bin{bin(9, 3, 4)}}
	empty := stock.Yard{Days: 2, Bins: bare.Bins, Moves: []stock.Move{}, Levels: []stock.Level{}}
	o := others{a: amounts([]int{3}, nil), oneLevel: span(1, 5), oneMove: span(1, 5)}
	same := others{a: amounts([]int{3}, []int{}), p: stock.Proof{Cells: cells()}, levels: []int{}, oneLevel: span(1, 5), oneMove: span(1, 5)}
	for i, call := range calls(o) {
		zero, e := call.do(bare)
		again, f := calls(same)[i].do(empty)
		if zero != again || e != f {
			t.Error(call.name, "returns another result for empty lists:", zero, e, again, f)
		}
	}
}

// TestAnyNumbers calls everything with numbers that are seldom allowed.
func TestAnyNumbers(t *testing.T) {
	r := rand.New(rand.NewPCG(3, 5))
	some := func() int {
		all := []int{math.MinInt, math.MinInt + 1, -2, -1, 5, 6, 300, 301, math.MaxInt - 1, math.MaxInt}
		if r.IntN(12) > 0 {
			return r.IntN(3)
		}
		return all[r.IntN(len(all))]
	}
	list := func() []int {
		var all []int
		for range r.IntN(4) {
			all = append(all, some())
		}
		return all
	}
	for range 5000 {
		y := stock.Yard{Days: some()}
		for range r.IntN(4) {
			y.Bins = append(y.Bins, stock.Bin{Holds: some(), First: span(some(), some())})
		}
		for range r.IntN(3) {
			y.Moves = append(y.Moves, stock.Move{Day: some(), From: some(), To: some(), Sacks: span(some(), some())})
		}
		for range r.IntN(3) {
			y.Levels = append(y.Levels, stock.Level{Day: some(), Bin: some(), Sacks: span(some(), some())})
		}
		o := others{
			a: amounts(list(), list()), bin: some(), move: some(), time: some(), sacks: some(),
			p: stock.Proof{Out: r.IntN(2) == 0}, levels: list(), oneLevel: span(some(), some()), oneMove: span(some(), some()),
		}
		for range r.IntN(4) {
			o.p.Cells = append(o.p.Cells, cell(some(), some()))
		}
		for _, call := range calls(o) {
			if zero, e := call.do(y); e != api.OK && !zero {
				t.Error(call.name, "has a result beside error", e)
			}
		}
	}
}
