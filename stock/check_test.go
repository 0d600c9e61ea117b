package stock_test

import (
	"math"
	"slices"
	"testing"

	"staddle/api"
	"staddle/stock"
)

// full is a yard with all that is allowed, whose numbers can be changed without an error of another one.
func full() stock.Yard {
	return stock.Yard{
		Days:   5,
		Bins:   slices.Repeat([]stock.Bin{bin(300, 0, 300)}, 4),
		Moves:  slices.Repeat([]stock.Move{move(0, 0, 1, 0, 300)}, 10),
		Levels: slices.Repeat([]stock.Level{level(0, 0, 0, 300)}, 8),
	}
}

func TestConstantsAreThoseOfTheChapter(t *testing.T) {
	got := []int{stock.Outside, stock.MaxDays, stock.MaxBins, stock.MaxMoves, stock.MaxLevels, stock.MaxSacks}
	if want := []int{-1, 5, 4, 10, 8, 300}; !slices.Equal(got, want) {
		t.Error("constants are", got, "and should be", want)
	}
}

// TestEachNumberAtItsLimits sets each number of a yard to the least and the greatest value that is allowed, and beyond.
func TestEachNumberAtItsLimits(t *testing.T) {
	for _, x := range []struct {
		name   string
		lo, hi int
		want   api.Errno
		set    func(y *stock.Yard, n int)
	}{
		{"Days", 1, 5, api.ErrMany, func(y *stock.Yard, n int) { y.Days = n }},
		{"Holds of the first bin", 0, 300, api.ErrRange, func(y *stock.Yard, n int) { y.Bins[0].Holds = n }},
		{"Holds of the last bin", 0, 300, api.ErrRange, func(y *stock.Yard, n int) { y.Bins[3].Holds = n }},
		{"the Lo of the first First", 0, 300, api.ErrRange, func(y *stock.Yard, n int) { y.Bins[0].First.Lo = n }},
		{"the Lo of the last First", 0, 300, api.ErrRange, func(y *stock.Yard, n int) { y.Bins[3].First.Lo = n }},
		{"the Hi of a First", 0, 300, api.ErrRange, func(y *stock.Yard, n int) { y.Bins[2].First.Hi = n }},
		{"the Lo of the first move", 0, 300, api.ErrRange, func(y *stock.Yard, n int) { y.Moves[0].Sacks.Lo = n }},
		{"the Lo of the last move", 0, 300, api.ErrRange, func(y *stock.Yard, n int) { y.Moves[9].Sacks.Lo = n }},
		{"the Hi of a move", 0, 300, api.ErrRange, func(y *stock.Yard, n int) { y.Moves[3].Sacks.Hi = n }},
		{"the Lo of the first level", 0, 300, api.ErrRange, func(y *stock.Yard, n int) { y.Levels[0].Sacks.Lo = n }},
		{"the Lo of the last level", 0, 300, api.ErrRange, func(y *stock.Yard, n int) { y.Levels[7].Sacks.Lo = n }},
		{"the Hi of a level", 0, 300, api.ErrRange, func(y *stock.Yard, n int) { y.Levels[4].Sacks.Hi = n }},
		{"the Day of the first move", 0, 4, api.ErrNot, func(y *stock.Yard, n int) { y.Moves[0].Day = n }},
		{"the Day of the last move", 0, 4, api.ErrNot, func(y *stock.Yard, n int) { y.Moves[9].Day = n }},
		{"From", -1, 3, api.ErrNot, func(y *stock.Yard, n int) { y.Moves[9] = move(0, n, 1-min(1, max(0, n)), 0, 1) }},
		{"To", -1, 3, api.ErrNot, func(y *stock.Yard, n int) { y.Moves[9] = move(0, 1-min(1, max(0, n)), n, 0, 1) }},
		{"the Day of the first level", 0, 5, api.ErrNot, func(y *stock.Yard, n int) { y.Levels[0].Day = n }},
		{"the Day of the last level", 0, 5, api.ErrNot, func(y *stock.Yard, n int) { y.Levels[7].Day = n }},
		{"the Bin of the first level", 0, 3, api.ErrNot, func(y *stock.Yard, n int) { y.Levels[0].Bin = n }},
		{"the Bin of the last level", 0, 3, api.ErrNot, func(y *stock.Yard, n int) { y.Levels[7].Bin = n }},
	} {
		for _, n := range []int{x.lo, x.hi} {
			y := full()
			x.set(&y, n)
			if e := stock.Check(y); e != api.OK {
				t.Error(x.name, n, "is allowed, but has error", e)
			}
		}
		for _, n := range []int{x.lo - 1, x.hi + 1, math.MinInt, math.MaxInt} {
			y := full()
			x.set(&y, n)
			if e := stock.Check(y); e != x.want {
				t.Error(x.name, n, "has error", e, "and should have", x.want)
			}
		}
	}
}

func TestHowManyAreAllowed(t *testing.T) {
	for _, x := range []struct {
		name   string
		change func(y *stock.Yard)
		want   api.Errno
	}{
		{"all that is allowed", func(y *stock.Yard) {}, api.OK},
		{"no bins", func(y *stock.Yard) { y.Bins = nil }, api.ErrMany},
		{"an empty list of bins", func(y *stock.Yard) { y.Bins = []stock.Bin{} }, api.ErrMany},
		{"one bin too many", func(y *stock.Yard) { y.Bins = append(y.Bins, stock.Bin{}) }, api.ErrMany},
		{"one bin", func(y *stock.Yard) { y.Bins, y.Moves = y.Bins[:1], nil }, api.OK},
		{"one move too many", func(y *stock.Yard) { y.Moves = append(y.Moves, y.Moves[0]) }, api.ErrMany},
		{"no moves", func(y *stock.Yard) { y.Moves = nil }, api.OK},
		{"one level too many", func(y *stock.Yard) { y.Levels = append(y.Levels, y.Levels[0]) }, api.ErrMany},
		{"no levels", func(y *stock.Yard) { y.Levels = nil }, api.OK},
	} {
		y := full()
		x.change(&y)
		if e := stock.Check(y); e != x.want {
			t.Error(x.name, "has error", e, "and should have", x.want)
		}
	}
}

func TestWhatIsInAYard(t *testing.T) {
	for _, x := range []struct {
		name   string
		change func(y *stock.Yard)
		want   api.Errno
	}{
		{"a day after the last one", func(y *stock.Yard) { y.Moves[2].Day = 2 }, api.ErrNot},
		{"the time of the end", func(y *stock.Yard) { y.Levels[0].Day = 2 }, api.OK},
		{"a time after the end", func(y *stock.Yard) { y.Levels[0].Day = 3 }, api.ErrNot},
		{"from a bin after the last one", func(y *stock.Yard) { y.Moves[1].From = 2 }, api.ErrNot},
		{"to a bin after the last one", func(y *stock.Yard) { y.Moves[1].To = 2 }, api.ErrNot},
		{"from a bin to itself", func(y *stock.Yard) { y.Moves[1].To = 0 }, api.ErrTwice},
		{"the last move from a bin to itself", func(y *stock.Yard) { y.Moves[2].To = 1 }, api.ErrTwice},
		{"from outside to outside", func(y *stock.Yard) { y.Moves[0].To = stock.Outside }, api.ErrTwice},
		{"a level of the outside", func(y *stock.Yard) { y.Levels[0].Bin = stock.Outside }, api.ErrNot},
		{"the First of a bin the wrong way round", func(y *stock.Yard) { y.Bins[1].First = span(1, 0) }, api.ErrOrder},
		{"a move the wrong way round", func(y *stock.Yard) { y.Moves[2].Sacks = span(11, 10) }, api.ErrOrder},
		{"a level the wrong way round", func(y *stock.Yard) { y.Levels[0].Sacks = span(300, 0) }, api.ErrOrder},
		{"a level of one number", func(y *stock.Yard) { y.Levels[0].Sacks = span(3, 3) }, api.OK},
		{"First with more than the bin holds", func(y *stock.Yard) { y.Bins[0].Holds = 3 }, api.OK},
		{"a bin that holds nothing", func(y *stock.Yard) { y.Bins[1].Holds = 0 }, api.OK},
	} {
		y := barn(0)
		x.change(&y)
		if e := stock.Check(y); e != x.want {
			t.Error(x.name, "has error", e, "and should have", x.want)
		}
	}
}

// TestWhichErrorAYardHas makes wrong all that is named from some place on, in the order of the table.
func TestWhichErrorAYardHas(t *testing.T) {
	wrong := []struct {
		e       api.Errno
		changes []func(y *stock.Yard)
	}{
		{api.ErrMany, []func(y *stock.Yard){
			func(y *stock.Yard) { y.Days = 0 },
			func(y *stock.Yard) { y.Bins = make([]stock.Bin, 5) },
			func(y *stock.Yard) { y.Moves = append(y.Moves, make([]stock.Move, 8)...) },
			func(y *stock.Yard) { y.Levels = append(y.Levels, make([]stock.Level, 7)...) },
		}},
		{api.ErrRange, []func(y *stock.Yard){
			func(y *stock.Yard) { y.Bins[1].Holds = 301 },
			func(y *stock.Yard) { y.Bins[1].First.Lo = -1 },
			func(y *stock.Yard) { y.Moves[2].Sacks.Hi = 301 },
			func(y *stock.Yard) { y.Levels[1].Sacks.Lo = -1 },
		}},
		{api.ErrNot, []func(y *stock.Yard){
			func(y *stock.Yard) { y.Moves[2].Day = 2 },
			func(y *stock.Yard) { y.Moves[2].From = -2 },
			func(y *stock.Yard) { y.Moves[2].To = 2 },
			func(y *stock.Yard) { y.Levels[1].Day = 3 },
			func(y *stock.Yard) { y.Levels[1].Bin = 2 },
		}},
		{api.ErrTwice, []func(y *stock.Yard){
			func(y *stock.Yard) { y.Moves[1].To = 0 },
		}},
		{api.ErrOrder, []func(y *stock.Yard){
			func(y *stock.Yard) { y.Bins[0].First = span(30, 20) },
			func(y *stock.Yard) { y.Moves[0].Sacks = span(30, 20) },
			func(y *stock.Yard) { y.Levels[0].Sacks = span(30, 20) },
		}},
	}
	for i, x := range wrong {
		for j, first := range x.changes {
			y := barn(0, 1)
			for _, later := range wrong[i+1:] {
				for _, change := range later.changes {
					change(&y)
				}
			}
			first(&y)
			if e := stock.Check(y); e != x.e {
				t.Error("change", j, "before all that comes later has error", e, "and should have", x.e)
			}
		}
	}
}

func TestMeasureAddsALevel(t *testing.T) {
	crowded := full()
	for _, x := range []struct {
		name string
		y    stock.Yard
		l    stock.Level
		want api.Errno
	}{
		{"the first level", barn(), level(2, 1, 20, 25), api.OK},
		{"the last level", stock.Yard{Days: 5, Bins: crowded.Bins, Levels: crowded.Levels[:7]}, level(5, 3, 0, 0), api.OK},
		{"the same level once more", barn(0), level(2, 1, 20, 25), api.OK},
		{"a level that clashes", barn(0), level(2, 1, 26, 26), api.OK},
		{"a level too many", crowded, level(0, 0, 0, 300), api.ErrFull},
		{"a level too many that is not allowed", crowded, level(9, 9, -1, 301), api.ErrFull},
		{"a level too many of a yard that is not allowed", stock.Yard{Levels: make([]stock.Level, 8)}, level(0, 0, 0, 300), api.ErrMany},
		{"a level of no time", barn(0), level(3, 1, 2, 1), api.ErrNot},
		{"a level of no bin", barn(0), level(0, 2, 2, 1), api.ErrNot},
		{"a level with too many sacks", barn(0), level(3, 1, 301, 0), api.ErrRange},
		{"a level the wrong way round", barn(0), level(2, 1, 2, 1), api.ErrOrder},
		{"a level of a yard that is not allowed", stock.Yard{Days: 1, Bins: []stock.Bin{bin(1, 1, 0)}}, level(9, 9, -1, 301), api.ErrOrder},
	} {
		got, e := stock.Measure(x.y, x.l)
		want := copyYard(x.y)
		want.Levels = append(want.Levels, x.l)
		if x.want != api.OK {
			want = stock.Yard{}
		}
		if e != x.want || !sameYard(got, want) {
			t.Error(x.name, "gives", got, e, "and should give", want, x.want)
		}
	}
}

func TestCarryAddsAMove(t *testing.T) {
	crowded := full()
	for _, x := range []struct {
		name string
		y    stock.Yard
		m    stock.Move
		want api.Errno
	}{
		{"the first move", stock.Yard{Days: 1, Bins: []stock.Bin{bin(9, 0, 9)}}, move(0, 0, stock.Outside, 1, 2), api.OK},
		{"the last move", stock.Yard{Days: 5, Bins: crowded.Bins, Moves: crowded.Moves[:9], Levels: crowded.Levels}, move(4, 3, 0, 0, 0), api.OK},
		{"a move that clashes", barn(0, 1), move(0, 0, 1, 300, 300), api.OK},
		{"a move too many", crowded, move(0, 0, 1, 0, 300), api.ErrFull},
		{"a move too many that is not allowed", crowded, move(9, 9, 9, -1, 301), api.ErrFull},
		{"a move too many of a yard that is not allowed", stock.Yard{Moves: make([]stock.Move, 10)}, move(0, 0, 1, 0, 300), api.ErrMany},
		{"a move of no day", barn(0), move(2, 1, 1, 2, 1), api.ErrNot},
		{"a move from no bin", barn(0), move(0, 2, 1, 2, 1), api.ErrNot},
		{"a move to no bin", barn(0), move(0, 1, -2, 2, 1), api.ErrNot},
		{"a move of too many sacks", barn(0), move(2, 1, 1, 301, 0), api.ErrRange},
		{"a move to where it comes from", barn(0), move(1, 1, 1, 2, 1), api.ErrTwice},
		{"a move the wrong way round", barn(0), move(1, 1, 0, 2, 1), api.ErrOrder},
	} {
		got, e := stock.Carry(x.y, x.m)
		want := copyYard(x.y)
		want.Moves = append(want.Moves, x.m)
		if x.want != api.OK {
			want = stock.Yard{}
		}
		if e != x.want || !sameYard(got, want) {
			t.Error(x.name, "gives", got, e, "and should give", want, x.want)
		}
	}
}

func TestYardsWithOneMoreAreCopies(t *testing.T) {
	y := barn(0, 1)
	y.Bins, y.Moves, y.Levels = append(make([]stock.Bin, 0, 9), y.Bins...), append(make([]stock.Move, 0, 9), y.Moves...), append(make([]stock.Level, 0, 9), y.Levels...)
	before := copyYard(y)
	a, _ := stock.Measure(y, level(1, 0, 60, 90))
	b, _ := stock.Measure(y, level(1, 0, 61, 90))
	c, _ := stock.Carry(y, move(0, 1, 0, 0, 1))
	d, _ := stock.Carry(y, move(0, 1, 0, 0, 2))
	if a.Levels[2] != level(1, 0, 60, 90) || b.Levels[2] != level(1, 0, 61, 90) {
		t.Error("levels were written over:", a.Levels, b.Levels)
	}
	if c.Moves[3] != move(0, 1, 0, 0, 1) || d.Moves[3] != move(0, 1, 0, 0, 2) {
		t.Error("moves were written over:", c.Moves, d.Moves)
	}
	for _, x := range []stock.Yard{a, b, c, d} {
		clear(x.Bins)
		clear(x.Moves)
		clear(x.Levels)
		if !sameYard(y, before) {
			t.Fatal("a yard was changed by what was done to a copy of it:", y)
		}
	}
	if y.Levels[:3][2] != (stock.Level{}) || y.Moves[:4][3] != (stock.Move{}) {
		t.Error("something was written beyond the end of a list")
	}
}
