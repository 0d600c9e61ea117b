package stock_test

import (
	"math/rand/v2"
	"testing"

	"staddle/api"
	"staddle/stock"
)

func wider(a, b api.Span) bool { return a.Lo <= b.Lo && a.Hi >= b.Hi }

// TestEachNumberWithinBoundsIsShown shows both ends of all bounds of yards as great as can be, some numbers between them,
// and that a level beyond them has a proof that it cannot be.
func TestEachNumberWithinBoundsIsShown(t *testing.T) {
	count := 0
	trials(t, 250, bigYard, func(r *rand.Rand, y stock.Yard) {
		for b := range y.Bins {
			bounds, e := stock.Bounds(y, b)
			if e != api.OK {
				return
			}
			for time, s := range bounds {
				for _, n := range []int{s.Lo, s.Hi, s.Lo + r.IntN(s.Hi-s.Lo+1)} {
					a, e := stock.Shown(y, b, time, n)
					if e != api.OK || !fit(y, a) || rows(y, a)[b][time] != n {
						t.Error(y, "bin", b, "at", time, "has", s, "but", n, "is shown by", a, e)
					}
				}
				for _, n := range []int{s.Lo - 1, s.Hi + 1} {
					if a, e := stock.Shown(y, b, time, n); e != api.ErrNone {
						t.Error(y, "bin", b, "at", time, "has", s, "but", n, "is shown by", a, e)
					}
				}
				refuse(t, y, stock.Level{Day: time, Bin: b, Sacks: span(0, s.Lo-1)})
				refuse(t, y, stock.Level{Day: time, Bin: b, Sacks: span(s.Hi+1, stock.MaxSacks)})
			}
		}
		count++
	})
	if count < 50 {
		t.Error("just", count, "yards fit")
	}
}

// refuse says what is wrong if a level that cannot be has no proof against it.
func refuse(t *testing.T, y stock.Yard, l stock.Level) {
	t.Helper()
	if len(y.Levels) == stock.MaxLevels || l.Sacks.Lo > l.Sacks.Hi {
		return
	}
	more, e := stock.Measure(y, l)
	if e != api.OK {
		t.Fatal(y, l, e)
	}
	p, e := stock.Prove(more)
	if e != api.OK || holdsBy(more, p) < 1 {
		t.Error(more, "cannot be, but its proof", p, e, "holds by", holdsBy(more, p))
	}
}

// TestEndsOfMovesAndOfTheWholeAreExact narrows a move, and what all bins have, to their ends, and beyond them.
func TestEndsOfMovesAndOfTheWholeAreExact(t *testing.T) {
	trials(t, 250, bigYard, func(r *rand.Rand, y stock.Yard) {
		for m := range y.Moves {
			s, e := stock.Moved(y, m)
			if e != api.OK {
				return
			}
			for _, n := range []int{s.Lo - 1, s.Lo, s.Hi, s.Hi + 1} {
				if n < y.Moves[m].Sacks.Lo || n > y.Moves[m].Sacks.Hi {
					continue
				}
				one := copyYard(y)
				one.Moves[m].Sacks = span(n, n)
				want := api.OK
				if n < s.Lo || n > s.Hi {
					want = api.ErrClash
				}
				if _, e := stock.Some(one); e != want {
					t.Error(y, "move", m, "has", s, "but with", n, "error", e)
				}
			}
		}
	})
}

func TestOneLevelMoreNeverWidens(t *testing.T) {
	for _, make := range []func(r *rand.Rand) stock.Yard{smallYard, bigYard} {
		count := 0
		trials(t, 300, make, func(r *rand.Rand, y stock.Yard) {
			more, e := stock.Measure(y, nearLevel(r, y, rows(y, someAmounts(r, y)), 3, 20))
			if e == api.ErrFull {
				more = copyYard(y)
				l := &more.Levels[r.IntN(len(y.Levels))].Sacks
				l.Lo += r.IntN(l.Hi - l.Lo + 1)
			}
			if narrows(t, y, more) {
				count++
			}
		})
		if count < 30 {
			t.Error("just", count, "yards fit with a level more")
		}
	}
}

func TestANarrowerLevelNeverWidens(t *testing.T) {
	trials(t, 400, bigYard, func(r *rand.Rand, y stock.Yard) {
		narrow := copyYard(y)
		for i := range narrow.Levels {
			s := &narrow.Levels[i].Sacks
			s.Lo += r.IntN(s.Hi-s.Lo+1) / 4
			s.Hi -= r.IntN(s.Hi-s.Lo+1) / 4
		}
		narrows(t, y, narrow)
	})
}

// narrows says what is wrong if a yard has wider bounds than another one, and returns whether both fit.
func narrows(t *testing.T, y, more stock.Yard) bool {
	t.Helper()
	was, e := stock.Whole(y)
	is, f := stock.Whole(more)
	if e == api.ErrClash && f != api.ErrClash {
		t.Error(y, "clashes no more with", more)
	}
	if e != api.OK || f != api.OK {
		return false
	}
	for time := range was {
		if !wider(was[time], is[time]) {
			t.Error(y, "has", was, "in all bins, and", is, "with", more)
		}
	}
	for b := range y.Bins {
		was, _ := stock.Bounds(y, b)
		is, _ := stock.Bounds(more, b)
		for time := range was {
			if !wider(was[time], is[time]) {
				t.Error(y, "has", was, "in bin", b, "and", is, "with", more)
			}
		}
	}
	return true
}

func TestTheWholeIsWithinTheSumsOfBins(t *testing.T) {
	trials(t, 300, bigYard, func(r *rand.Rand, y stock.Yard) {
		whole, e := stock.Whole(y)
		if e != api.OK {
			return
		}
		sums := make([]api.Span, y.Days+1)
		for b := range y.Bins {
			bounds, _ := stock.Bounds(y, b)
			for time, s := range bounds {
				sums[time] = span(sums[time].Lo+s.Lo, sums[time].Hi+s.Hi)
			}
		}
		for time := range whole {
			if !wider(sums[time], whole[time]) {
				t.Error(y, "has", whole, "in all bins, which have", sums)
			}
		}
	})
}

func TestGrainThatStaysInTheYardIsNeitherMoreNorLess(t *testing.T) {
	count := 0
	inner := func(r *rand.Rand) stock.Yard {
		y := bigYard(r)
		for len(y.Bins) < 3 {
			y.Bins = append(y.Bins, bin(300, 40, 200))
		}
		for i := range y.Moves {
			m := &y.Moves[i]
			m.From = max(0, m.From)
			m.To = (m.From + 1 + r.IntN(len(y.Bins)-1)) % len(y.Bins)
		}
		y.Levels = y.Levels[:min(2, len(y.Levels))]
		return y
	}
	trials(t, 200, inner, func(r *rand.Rand, y stock.Yard) {
		whole, e := stock.Whole(y)
		if e != api.OK {
			return
		}
		count++
		for _, s := range whole {
			if s != whole[0] {
				t.Error(y, "has", whole, "in all bins, though nothing came or went")
			}
		}
	})
	if count < 20 {
		t.Error("just", count, "yards fit")
	}
}

func TestABinThatWasLeftAloneHasTheSameAlways(t *testing.T) {
	count := 0
	trials(t, 400, bigYard, func(r *rand.Rand, y stock.Yard) {
		for b := range y.Bins {
			touched := false
			for _, m := range y.Moves {
				touched = touched || m.From == b || m.To == b
			}
			bounds, e := stock.Bounds(y, b)
			if touched || e != api.OK {
				continue
			}
			count++
			for _, s := range bounds {
				if s != bounds[0] {
					t.Error(y, "bin", b, "was left alone, and has", bounds)
				}
			}
		}
	})
	if count < 20 {
		t.Error("just", count, "bins were left alone")
	}
}
