package stock_test

import (
	"math"
	"math/rand/v2"
	"slices"
	"testing"

	"staddle/api"
	"staddle/stock"
)

func spans(ends ...int) []api.Span {
	var all []api.Span
	for i := 0; i < len(ends); i += 2 {
		all = append(all, span(ends[i], ends[i+1]))
	}
	return all
}

// turned has grain that is only turned over between two of three bins.
func turned() stock.Yard {
	return stock.Yard{
		Days:  2,
		Bins:  []stock.Bin{bin(40, 10, 12), bin(15, 5, 5), bin(9, 1, 4)},
		Moves: []stock.Move{move(0, 0, 1, 0, 20), move(1, 1, 0, 3, 9)},
	}
}

// fullest has as much in each bin as is allowed, and as much moved to and fro: only one filling of it fits.
func fullest() stock.Yard {
	y := stock.Yard{Days: 5, Bins: slices.Repeat([]stock.Bin{bin(300, 300, 300)}, 4)}
	for day := range 5 {
		y.Moves = append(y.Moves, move(day, 0, 3, 300, 300), move(day, 3, 0, 0, 300))
	}
	return y
}

func TestBoundsOfTheExamples(t *testing.T) {
	for _, x := range []struct {
		name  string
		y     stock.Yard
		bins  [][]api.Span
		whole []api.Span
		moves []api.Span
	}{
		{"example 1", barn(), [][]api.Span{spans(20, 30, 60, 90, 20, 80), spans(0, 0, 0, 0, 0, 35)}, spans(20, 30, 60, 90, 50, 85), spans(40, 60, 10, 40, 5, 10)},
		{"example 2", barn(0), [][]api.Span{spans(20, 30, 60, 90, 25, 65), spans(0, 0, 0, 0, 20, 25)}, spans(20, 30, 60, 90, 50, 85), spans(40, 60, 25, 35, 5, 10)},
		{"a level before", measured(level(1, 0, 88, 95)), [][]api.Span{spans(28, 30, 88, 90, 48, 80), spans(0, 0, 0, 0, 0, 35)}, spans(28, 30, 88, 90, 78, 85), spans(58, 60, 10, 40, 5, 10)},
		{"a level at first", measured(level(0, 0, 0, 22)), [][]api.Span{spans(20, 22, 60, 82, 20, 72), spans(0, 0, 0, 0, 0, 35)}, spans(20, 22, 60, 82, 50, 77), spans(40, 60, 10, 40, 5, 10)},
		{"a turning", turned(), [][]api.Span{spans(10, 12, 0, 12, 3, 17), spans(5, 5, 5, 15, 0, 12), spans(1, 4, 1, 4, 1, 4)}, spans(16, 21, 16, 21, 16, 21), spans(0, 10, 3, 9)},
		{"a bin that holds less than it had", stock.Yard{Days: 1, Bins: []stock.Bin{bin(5, 3, 9)}}, [][]api.Span{spans(3, 5, 3, 5)}, spans(3, 5, 3, 5), nil},
		{"a bin alone", stock.Yard{Days: 1, Bins: []stock.Bin{bin(300, 0, 300)}}, [][]api.Span{spans(0, 300, 0, 300)}, spans(0, 300, 0, 300), nil},
		{"full bins", fullest(), [][]api.Span{spans(300, 300, 300, 300, 300, 300, 300, 300, 300, 300, 300, 300), spans(300, 300, 300, 300, 300, 300, 300, 300, 300, 300, 300, 300), spans(300, 300, 300, 300, 300, 300, 300, 300, 300, 300, 300, 300), spans(300, 300, 300, 300, 300, 300, 300, 300, 300, 300, 300, 300)}, spans(1200, 1200, 1200, 1200, 1200, 1200, 1200, 1200, 1200, 1200, 1200, 1200), slices.Repeat(spans(300, 300), 10)},
		{"anything", full(), slices.Repeat([][]api.Span{slices.Repeat(spans(0, 300), 6)}, 4), slices.Repeat(spans(0, 1200), 6), slices.Repeat(spans(0, 300), 10)},
	} {
		for b, want := range x.bins {
			if got, e := stock.Bounds(x.y, b); !slices.Equal(got, want) || e != api.OK {
				t.Error(x.name, "has bounds", got, e, "of bin", b, "and should have", want)
			}
		}
		for m, want := range x.moves {
			if got, e := stock.Moved(x.y, m); got != want || e != api.OK {
				t.Error(x.name, "has bounds", got, e, "of move", m, "and should have", want)
			}
		}
		if got, e := stock.Whole(x.y); !slices.Equal(got, x.whole) || e != api.OK {
			t.Error(x.name, "has bounds", got, e, "of all bins, and should have", x.whole)
		}
	}
}

func TestBoundsAreThoseOfAllAmountsThatFit(t *testing.T) {
	trials(t, 1500, smallYard, func(r *rand.Rand, y stock.Yard) {
		k := look(y)
		want := api.OK
		if !k.fits() {
			k, want = known{bins: make([][]api.Span, len(y.Bins)), moves: make([]api.Span, len(y.Moves))}, api.ErrClash
		}
		for b := range y.Bins {
			if got, e := stock.Bounds(y, b); !slices.Equal(got, k.bins[b]) || e != want {
				t.Error(y, "has bounds", got, e, "of bin", b, "and should have", k.bins[b], want)
			}
		}
		for m := range y.Moves {
			if got, e := stock.Moved(y, m); got != k.moves[m] || e != want {
				t.Error(y, "has bounds", got, e, "of move", m, "and should have", k.moves[m], want)
			}
		}
		if got, e := stock.Whole(y); !slices.Equal(got, k.whole) || e != want {
			t.Error(y, "has bounds", got, e, "of all bins, and should have", k.whole, want)
		}
	})
}

func TestErrorsOfBounds(t *testing.T) {
	for _, n := range []int{math.MinInt, -1, 2, math.MaxInt} {
		for _, y := range []stock.Yard{barn(), barn(0, 1)} {
			if got, e := stock.Bounds(y, n); len(got) != 0 || e != api.ErrNot {
				t.Error("bin", n, "has bounds", got, e)
			}
		}
	}
	for _, n := range []int{math.MinInt, -1, 3, math.MaxInt} {
		for _, y := range []stock.Yard{barn(), barn(0, 1)} {
			if got, e := stock.Moved(y, n); got != (api.Span{}) || e != api.ErrNot {
				t.Error("move", n, "has bounds", got, e)
			}
		}
	}
	for _, y := range []stock.Yard{barn(0, 1), barn(0, 2)} {
		a, e := stock.Bounds(y, 1)
		b, f := stock.Moved(y, 2)
		c, g := stock.Whole(y)
		if len(a) != 0 || b != (api.Span{}) || len(c) != 0 || e != api.ErrClash || f != api.ErrClash || g != api.ErrClash {
			t.Error("what clashes has bounds", a, b, c, e, f, g)
		}
	}
	if got, e := stock.Moved(stock.Yard{Days: 1, Bins: []stock.Bin{{}}}, 0); got != (api.Span{}) || e != api.ErrNot {
		t.Error("a yard without moves has one of", got, e)
	}
}

func TestWhenABinHasSoMuch(t *testing.T) {
	type when struct {
		time int
		e    api.Errno
	}
	never := when{0, api.ErrNone}
	for _, x := range []struct {
		y               stock.Yard
		bin, sacks      int
		surely, perhaps when
	}{
		{barn(0), 0, 60, when{1, api.OK}, when{1, api.OK}},
		{barn(0), 1, 20, when{2, api.OK}, when{2, api.OK}},
		{barn(0), 1, 25, never, when{2, api.OK}},
		{barn(0), 1, 26, never, never},
		{barn(), 0, 0, when{0, api.OK}, when{0, api.OK}},
		{barn(), 0, 20, when{0, api.OK}, when{0, api.OK}},
		{barn(), 0, 21, when{1, api.OK}, when{0, api.OK}},
		{barn(), 0, 30, when{1, api.OK}, when{0, api.OK}},
		{barn(), 0, 31, when{1, api.OK}, when{1, api.OK}},
		{barn(), 0, 61, never, when{1, api.OK}},
		{barn(), 0, 90, never, when{1, api.OK}},
		{barn(), 0, 91, never, never},
		{barn(), 0, 300, never, never},
		{fullest(), 3, 300, when{0, api.OK}, when{0, api.OK}},
		{barn(), 0, -1, when{0, api.ErrRange}, when{0, api.ErrRange}},
		{barn(), 0, 301, when{0, api.ErrRange}, when{0, api.ErrRange}},
		{barn(), 0, math.MinInt, when{0, api.ErrRange}, when{0, api.ErrRange}},
		{barn(), 0, math.MaxInt, when{0, api.ErrRange}, when{0, api.ErrRange}},
		{barn(), 2, 301, when{0, api.ErrNot}, when{0, api.ErrNot}},
		{barn(), -1, 20, when{0, api.ErrNot}, when{0, api.ErrNot}},
		{barn(0, 1), 2, 301, when{0, api.ErrNot}, when{0, api.ErrNot}},
		{barn(0, 1), 1, 301, when{0, api.ErrRange}, when{0, api.ErrRange}},
		{barn(0, 1), 1, 300, when{0, api.ErrClash}, when{0, api.ErrClash}},
		{barn(0, 1), 1, 0, when{0, api.ErrClash}, when{0, api.ErrClash}},
	} {
		a, e := stock.Surely(x.y, x.bin, x.sacks)
		b, f := stock.Perhaps(x.y, x.bin, x.sacks)
		if (when{a, e}) != x.surely || (when{b, f}) != x.perhaps {
			t.Error("bin", x.bin, "has", x.sacks, "surely at", a, e, "and perhaps at", b, f, "and should at", x.surely, x.perhaps)
		}
	}
}

func TestWhenIsTheFirstTimeInAllAmountsThatFit(t *testing.T) {
	trials(t, 600, smallYard, func(r *rand.Rand, y stock.Yard) {
		k := look(y)
		b, sacks := r.IntN(len(y.Bins)), r.IntN(11)
		first := func(is func(s api.Span) bool) (int, api.Errno) {
			if !k.fits() {
				return 0, api.ErrClash
			}
			time := slices.IndexFunc(k.bins[b], is)
			if time < 0 {
				return 0, api.ErrNone
			}
			return time, api.OK
		}
		sure, e := first(func(s api.Span) bool { return s.Lo >= sacks })
		can, f := first(func(s api.Span) bool { return s.Hi >= sacks })
		if got, g := stock.Surely(y, b, sacks); got != sure || g != e {
			t.Error(y, "bin", b, "has", sacks, "surely at", got, g, "and should at", sure, e)
		}
		if got, g := stock.Perhaps(y, b, sacks); got != can || g != f {
			t.Error(y, "bin", b, "has", sacks, "perhaps at", got, g, "and should at", can, f)
		}
	})
}
