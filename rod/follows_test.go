package rod_test

import (
	"math/rand/v2"
	"slices"
	"testing"

	"staddle/api"
	"staddle/rod"
)

// TestFewestAreAsManyAsRodsApartOrMore shows that warm cells explain all rods, and that rods apart each need one.
func TestFewestAreAsManyAsRodsApartOrMore(t *testing.T) {
	trials(t, 500, bigBin, func(r *rand.Rand, b rod.Bin) {
		few, e := rod.Fewest(b)
		if e != api.OK {
			return
		}
		apart, _ := rod.Apart(b)
		heats, e := rod.Lay(b, few)
		if len(few) < len(apart) || e != api.OK || !fit(b, heats) {
			t.Error(b, "has fewest", few, "apart", apart, "and is laid", heats, e)
		}
		for _, c := range allCells(b) {
			rods, _ := rod.Explains(b, c)
			both := 0
			for _, k := range rods {
				if slices.Contains(apart, k) {
					both++
				}
			}
			if both > 1 {
				t.Error(b, c, "explains several of", apart)
			}
		}
	})
}

// TestGreatestHeatsFit raises each of the greatest heats by one, and lowers each of the least ones.
func TestGreatestHeatsFit(t *testing.T) {
	count := 0
	trials(t, 300, bigBin, func(r *rand.Rand, b rod.Bin) {
		most, e := rod.Most(b)
		if e != api.OK {
			return
		}
		count++
		least, _ := rod.Least(b)
		warm, _ := rod.Warm(b)
		if is, e := rod.Fits(b, most); !is || e != api.OK {
			t.Error(b, "has greatest heats", most, "which do not fit", e)
		}
		for i, c := range allCells(b) {
			if most[i] < rod.MaxHeat && fit(b, changed(most, i, most[i]+1)) {
				t.Error(b, c, "can be hotter than", most[i])
			}
			if !fit(b, changed(most, i, least[i])) || least[i] > 0 && fit(b, changed(most, i, least[i]-1)) {
				t.Error(b, c, "has not", least[i], "as its least heat")
			}
			if slices.Contains(warm, c) != (least[i] > 0) || least[i] > 0 && least[i] != most[i] {
				t.Error(b, c, "is from", least[i], "to", most[i], "and warm for certain are", warm)
			}
			for _, x := range b.Rods {
				if n := far(c, x.Tip); n <= x.Range && most[i] > x.Shows+n {
					t.Error(b, c, "has", most[i], "too much for", x)
				}
			}
		}
	})
	if count < 100 {
		t.Error("just", count, "bins have heats that fit")
	}
}

func TestOneRodMoreNeverWidens(t *testing.T) {
	count := 0
	trials(t, 300, bigBin, func(r *rand.Rand, b rod.Bin) {
		most, e := rod.Most(b)
		if e != api.OK || len(b.Rods) == rod.MaxRods {
			return
		}
		least, _ := rod.Least(b)
		tip := cell(r.IntN(b.Cols), r.IntN(b.Rows))
		reach := r.IntN(rod.MaxRange + 1)
		s, _ := rod.Leaves(b, tip, reach)
		for n := range rod.MaxHeat + 1 {
			more, _ := rod.Put(b, rod.Rod{Tip: tip, Range: reach, Shows: n})
			hot, e := rod.Most(more)
			cool, f := rod.Least(more)
			want := api.OK
			if n < s.Lo || n > s.Hi {
				want = api.ErrClash
			}
			if e != want || f != want {
				t.Error(b, "leaves", s, "at", tip, "but with", n, "error", e, f)
			}
			for i := range hot {
				if hot[i] > most[i] || cool[i] < least[i] {
					t.Error(b, "has", least, "to", most, "and", cool, "to", hot, "with one rod more")
				}
			}
			count++
		}
	})
	if count < 500 {
		t.Error("just", count, "rods were put in")
	}
}

// TestTheRodThatIsPutNextTellsTheMost compares the tip that is told with all others.
func TestTheRodThatIsPutNextTellsTheMost(t *testing.T) {
	trials(t, 200, bigBin, func(r *rand.Rand, b rod.Bin) {
		reach := r.IntN(rod.MaxRange + 1)
		next, e := rod.Next(b, reach)
		if e == api.ErrClash {
			return
		}
		best, _ := rod.Leaves(b, next, reach)
		for _, c := range allCells(b) {
			s, f := rod.Leaves(b, c, reach)
			if f != api.OK || s.Hi-s.Lo > best.Hi-best.Lo || e == api.ErrNone && s.Hi != s.Lo {
				t.Error(b, "has next", next, e, "which leaves", best, "but", c, "leaves", s, f)
			}
		}
	})
}

func TestWithoutAnyRodOfAClashTheOthersAgree(t *testing.T) {
	count := 0
	for _, make := range []func(r *rand.Rand) rod.Bin{bigBin, coolBin} {
		trials(t, 200, make, func(r *rand.Rand, b rod.Bin) {
			list, e := rod.Clash(b)
			if e != api.OK {
				return
			}
			count++
			if is, _ := rod.Agree(b, list); is || len(list) < 2 {
				t.Error(b, "clashes in", list)
			}
			for i := range list {
				rest := slices.Delete(slices.Clone(list), i, i+1)
				if is, e := rod.Agree(b, rest); !is || e != api.OK {
					t.Error(b, "clashes in", list, "but", rest, "agree:", is, e)
				}
			}
		})
	}
	if count < 50 {
		t.Error("just", count, "bins clash")
	}
}
