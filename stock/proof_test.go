package stock_test

import (
	"math"
	"math/rand/v2"
	"testing"

	"staddle/api"
	"staddle/stock"
)

func TestProvesOfTheExamples(t *testing.T) {
	three := cells(cell(0, 0), cell(0, 1), cell(1, 1))
	brimful := stock.Yard{Days: 1, Bins: []stock.Bin{bin(5, 6, 9)}}
	moreOut := stock.Yard{Days: 1, Bins: []stock.Bin{bin(9, 0, 3)}, Moves: []stock.Move{move(0, 0, stock.Outside, 3, 9), move(0, 0, stock.Outside, 2, 9)}}
	for _, x := range []struct {
		name string
		y    stock.Yard
		p    stock.Proof
		want int
		e    api.Errno
	}{
		{"example 3", barn(0, 1), stock.Proof{Cells: three}, 1, api.OK},
		{"example 3 the other way", barn(0, 1), stock.Proof{Cells: three, Out: true}, 0, api.ErrNone},
		{"example 3 with a cell of nothing", barn(0, 1), stock.Proof{Cells: cells(cell(0, 0), cell(0, 1), cell(1, 0), cell(1, 1))}, 1, api.OK},
		{"example 3 with a cell less", barn(0, 1), stock.Proof{Cells: cells(cell(0, 0), cell(0, 1))}, 0, api.ErrNone},
		{"example 3 without cells", barn(0, 1), stock.Proof{}, 0, api.ErrNone},
		{"example 3 with the levels the other way round", barn(1, 0), stock.Proof{Cells: three}, 1, api.OK},
		{"cells of what fits", barn(0), stock.Proof{Cells: three}, 0, api.ErrNone},
		{"example 5", barn(0, 2), stock.Proof{}, 5, api.OK},
		{"example 5 the other way", barn(0, 2), stock.Proof{Out: true}, 5, api.OK},
		{"example 5 with an empty list", barn(0, 2), stock.Proof{Cells: cells()}, 5, api.OK},
		{"more than a bin holds", brimful, stock.Proof{}, 1, api.OK},
		{"more than a bin holds, by its cell", brimful, stock.Proof{Cells: cells(cell(0, 0))}, 1, api.OK},
		{"more than a bin holds, the other way", brimful, stock.Proof{Cells: cells(cell(0, 0)), Out: true}, 0, api.ErrNone},
		{"more than comes in", measured(level(2, 1, 36, 40)), stock.Proof{Cells: cells(cell(1, 0), cell(1, 1)), Out: true}, 1, api.OK},
		{"as much as comes in", measured(level(2, 1, 35, 40)), stock.Proof{Cells: cells(cell(1, 0), cell(1, 1)), Out: true}, 0, api.ErrNone},
		{"more moved than was there", moreOut, stock.Proof{Cells: cells(cell(0, 0)), Out: true}, 2, api.OK},
		{"two gaps, the greater one first", measured(level(2, 1, 30, 40), level(2, 1, 20, 22), level(2, 0, 5, 5), level(2, 0, 6, 6)), stock.Proof{}, 8, api.OK},
		{"two gaps, the greater one last", measured(level(2, 0, 30, 40), level(2, 0, 20, 22), level(2, 1, 5, 5), level(2, 1, 16, 16)), stock.Proof{}, 11, api.OK},
		{"a day after the last one", barn(0, 1), stock.Proof{Cells: cells(cell(0, 2))}, 0, api.ErrNot},
		{"no day, after cells out of order", barn(0, 1), stock.Proof{Cells: cells(cell(0, 1), cell(0, 0), cell(1, -1))}, 0, api.ErrNot},
		{"no bin", barn(0, 1), stock.Proof{Cells: cells(cell(2, 0))}, 0, api.ErrNot},
		{"outside", barn(0, 1), stock.Proof{Cells: cells(cell(stock.Outside, 0), cell(0, 0))}, 0, api.ErrNot},
		{"outside before the first day", barn(0, 1), stock.Proof{Cells: cells(cell(stock.Outside, -1))}, 0, api.ErrNot},
		{"far off", barn(0, 1), stock.Proof{Cells: cells(cell(math.MaxInt, math.MinInt))}, 0, api.ErrNot},
		{"days out of order", barn(0, 1), stock.Proof{Cells: cells(cell(0, 1), cell(0, 0))}, 0, api.ErrOrder},
		{"bins out of order", barn(0, 1), stock.Proof{Cells: cells(cell(1, 0), cell(0, 1))}, 0, api.ErrOrder},
		{"the last two out of order", barn(0, 1), stock.Proof{Cells: cells(cell(0, 0), cell(0, 1), cell(1, 1), cell(1, 0))}, 0, api.ErrOrder},
		{"a cell twice", barn(0, 1), stock.Proof{Cells: cells(cell(0, 1), cell(0, 1))}, 0, api.ErrOrder},
		{"a cell twice of what has no proof", barn(), stock.Proof{Cells: cells(cell(0, 0), cell(0, 0))}, 0, api.ErrOrder},
		{"bins in order, though days are not", barn(0, 1), stock.Proof{Cells: cells(cell(0, 1), cell(1, 0))}, 0, api.ErrNone},
	} {
		if n, e := stock.Proves(x.y, x.p); n != x.want || e != x.e {
			t.Error(x.name, "proves by", n, e, "and should by", x.want, x.e)
		}
	}
}

// someCells returns cells of a yard, each of them or not, in their order.
func someCells(r *rand.Rand, y stock.Yard) []stock.Cell {
	var all []stock.Cell
	for b := range y.Bins {
		for day := range y.Days {
			if r.IntN(2) == 0 {
				all = append(all, cell(b, day))
			}
		}
	}
	return all
}

func TestProvesAddsUpAllFlows(t *testing.T) {
	count := 0
	for _, make := range []func(r *rand.Rand) stock.Yard{smallYard, bigYard} {
		trials(t, 1500, make, func(r *rand.Rand, y stock.Yard) {
			p := stock.Proof{Cells: someCells(r, y), Out: r.IntN(2) == 0}
			n, e := stock.Proves(y, p)
			want := holdsBy(y, p)
			if want < 1 && (n != 0 || e != api.ErrNone) || want > 0 && (n != want || e != api.OK) {
				t.Error(y, p, "proves by", n, e, "and should by", want)
			}
			if want > 0 {
				count++
			}
		})
	}
	if count < 100 {
		t.Error("just", count, "proofs hold")
	}
}

// TestAProofHoldsJustIfNothingFits looks for the proof of small yards, both by Prove and among all proofs.
func TestAProofHoldsJustIfNothingFits(t *testing.T) {
	kinds := map[string]int{}
	trials(t, 1500, smallYard, func(r *rand.Rand, y stock.Yard) {
		k := look(y)
		p, e := stock.Prove(y)
		switch {
		case k.fits():
			if e != api.ErrNone || len(p.Cells) != 0 || p.Out {
				t.Error(y, "fits, but has the proof", p, e)
			}
			for range 20 {
				other := stock.Proof{Cells: someCells(r, y), Out: r.IntN(2) == 0}
				if n, f := stock.Proves(y, other); f != api.ErrNone {
					t.Error(y, "fits, but", other, "proves by", n, f)
				}
			}
			kinds["fits"]++
		default:
			n, f := stock.Proves(y, p)
			if e != api.OK || f != api.OK || n != holdsBy(y, p) || n < 1 {
				t.Error(y, "does not fit, but its proof", p, e, "holds by", n, f)
			}
			switch {
			case len(p.Cells) == 0:
				kinds["without cells"]++
			case p.Out:
				kinds["out"]++
			default:
				kinds["in"]++
			}
		}
	})
	for _, kind := range []string{"fits", "without cells", "out", "in"} {
		if kinds[kind] < 20 {
			t.Error("too few of a kind:", kinds)
			break
		}
	}
}

func TestProveOfTheExamples(t *testing.T) {
	for _, y := range []stock.Yard{barn(), barn(0), barn(1), barn(2), fullest(), full()} {
		if p, e := stock.Prove(y); e != api.ErrNone || len(p.Cells) != 0 || p.Out {
			t.Error(y, "fits, but has the proof", p, e)
		}
	}
	for _, y := range []stock.Yard{barn(0, 1), barn(0, 2), barn(0, 1, 2), measured(level(2, 1, 36, 40)), measured(level(2, 0, 0, 19)), measured(level(1, 0, 91, 300)), {Days: 1, Bins: []stock.Bin{bin(5, 6, 9)}}} {
		p, e := stock.Prove(y)
		if n := holdsBy(y, p); e != api.OK || n < 1 {
			t.Error(y, "does not fit, but its proof", p, e, "holds by", n)
		}
	}
}
