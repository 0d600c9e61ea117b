package weevil_test

import (
	"math"
	"math/rand/v2"
	"slices"
	"testing"

	"staddle/api"
	"staddle/weevil"
)

func TestConstants(t *testing.T) {
	got := list(weevil.Never, weevil.MaxBins, weevil.MaxGaps, weevil.MaxSights, weevil.MaxWeeks)
	if want := list(-1, 7, 10, 8, 9); !slices.Equal(got, want) {
		t.Error("the constants are", got, "and should be", want)
	}
}

func TestCheckAtTheLimits(t *testing.T) {
	bins := func(n int) weevil.House { return weevil.House{Bins: n} }
	sights := func(n int) weevil.House { return six(slices.Repeat([]weevil.Sight{seen(1, 1)}, n)...) }
	joined := func(a, b int) weevil.House { return but(func(h *weevil.House) { h.Gaps[6] = gap(a, b) }) }
	const many, out, no, twice = api.ErrMany, api.ErrRange, api.ErrNot, api.ErrTwice
	for _, x := range []struct {
		name string
		h    weevil.House
		want api.Errno
	}{
		{"the examples", six(), api.OK}, {"example 2", six(seen(2, 3), none(1, 1)), api.OK}, {"sights that clash", clashing(), api.OK}, {"all that is allowed", full(), api.OK},
		{"one bin", bins(1), api.OK}, {"seven bins", bins(7), api.OK}, {"no bins", bins(0), many}, {"eight bins", bins(8), many}, {"-1 bins", bins(-1), many},
		{"the most bins of all", bins(math.MaxInt), many}, {"the fewest bins of all", bins(math.MinInt), many},
		{"no gaps", side(0), api.OK}, {"ten gaps", side(10), api.OK}, {"eleven gaps", side(11), many},
		{"no sights", sights(0), api.OK}, {"eight sights", sights(8), api.OK}, {"nine sights", sights(9), many},
		{"a sight of week 0", six(seen(0, 1)), api.OK}, {"a sight of week 9", six(none(9, 1)), api.OK},
		{"a sight of week -1", six(seen(-1, 1)), out}, {"a sight of week 10", six(none(10, 1)), out}, {"a last sight of week 10", six(seen(1, 1), none(10, 1)), out},
		{"a sight of the last week of all", six(seen(math.MaxInt, 1)), out}, {"a sight of the first week of all", six(seen(math.MinInt, 1)), out},
		{"a sight in the first bin", six(seen(1, 0)), api.OK}, {"a sight in the last bin", six(seen(1, 5)), api.OK},
		{"a sight in bin 6", six(seen(1, 6)), no}, {"a sight in bin -1", six(none(1, -1)), no}, {"a last sight in bin 6", six(seen(1, 1), none(1, 6)), no},
		{"a gap from the first bin to the last", joined(0, 5), api.OK}, {"a gap from the last bin to the first", joined(5, 0), api.OK},
		{"a gap to bin 6", joined(0, 6), no}, {"a gap from bin 6", joined(6, 0), no}, {"a gap to bin -1", joined(0, -1), no}, {"a gap from bin -1", joined(-1, 0), no},
		{"a gap to the last number of all", joined(0, math.MaxInt), no}, {"a gap of a bin that there is not to itself", joined(6, 6), no},
		{"a gap once more", joined(0, 1), api.OK}, {"a gap once more, the other way round", joined(1, 0), api.OK},
		{"a gap of the first bin to itself", joined(0, 0), twice}, {"a gap of the last bin to itself", joined(5, 5), twice},
		{"a gap in a house of one bin", weevil.House{Bins: 1, Gaps: gaps(gap(0, 0))}, twice},
	} {
		if e := weevil.Check(x.h); e != x.want {
			t.Error(x.name, "has error", e, "and should have", x.want)
		}
	}
}

// TestCheckInOrder has errors of which the first one that the chapter names is to be returned.
func TestCheckInOrder(t *testing.T) {
	type changes []func(h *weevil.House)
	large := func(h *weevil.House) { h.Bins = 8 }
	wide := func(h *weevil.House) { h.Gaps = append(h.Gaps, slices.Repeat(gaps(gap(0, 1)), 4)...) }
	often := func(h *weevil.House) { h.Sights = append(h.Sights, slices.Repeat(h.Sights, 4)...) }
	late := func(h *weevil.House) { h.Sights[1].Week = 10 }
	away := func(h *weevil.House) { h.Gaps[5].B = 9 }
	unseen := func(h *weevil.House) { h.Sights[0].Bin = 9 }
	loop := func(h *weevil.House) { h.Gaps[0].A = 1 }
	for _, x := range []struct {
		name    string
		changes changes
		want    api.Errno
	}{
		{"eight bins", changes{large, late, away, unseen, loop}, api.ErrMany},
		{"eleven gaps", changes{wide, late, away, unseen, loop}, api.ErrMany},
		{"ten sights", changes{often, late, away, unseen, loop}, api.ErrMany},
		{"week 10", changes{late, away, unseen, loop}, api.ErrRange},
		{"a gap to bin 9", changes{away, loop}, api.ErrNot},
		{"a sight in bin 9", changes{unseen, loop}, api.ErrNot},
		{"a gap of a bin to itself", changes{loop}, api.ErrTwice},
	} {
		h := but(func(h *weevil.House) {
			for _, change := range x.changes {
				change(h)
			}
		})
		if e := weevil.Check(h); e != x.want {
			t.Error(x.name, "has error", e, "and should have", x.want)
		}
	}
}

func TestSee(t *testing.T) {
	for _, x := range []struct {
		name string
		h    weevil.House
		s    weevil.Sight
		e    api.Errno
	}{
		{"the first sight", six(), seen(2, 3), api.OK},
		{"another sight", six(seen(2, 3)), none(1, 1), api.OK},
		{"the same sight again", six(seen(2, 3)), seen(2, 3), api.OK},
		{"a sight that clashes", six(seen(2, 3), none(1, 1)), none(2, 4), api.OK},
		{"the eighth sight", six(slices.Repeat([]weevil.Sight{seen(1, 1)}, 7)...), seen(9, 5), api.OK},
		{"the ninth sight", full(), seen(1, 1), api.ErrFull},
		{"the ninth sight, of week 10 and in a bin that there is not", full(), seen(10, 7), api.ErrFull},
		{"a sight of week 10", six(), seen(10, 1), api.ErrRange},
		{"a sight of week -1", six(), none(-1, 1), api.ErrRange},
		{"a sight of week 10 in a bin that there is not", six(), seen(10, 6), api.ErrRange},
		{"a sight in a bin that there is not", six(), seen(1, 6), api.ErrNot},
		{"a sight in bin -1", six(), none(1, -1), api.ErrNot},
	} {
		want := weevil.House{}
		if x.e == api.OK {
			want = copyHouse(x.h)
			want.Sights = append(want.Sights, x.s)
		}
		if got, e := weevil.See(x.h, x.s); !sameHouse(got, want) || e != x.e {
			t.Error(x.name, "gives", got, e, "and should give", want, x.e)
		}
	}
}

func TestClose(t *testing.T) {
	for _, x := range []struct {
		name string
		h    weevil.House
		gap  int
		e    api.Errno
	}{
		{"the first gap", clashing(), 0, api.OK},
		{"a gap in the midst", clashing(), 3, api.OK},
		{"the last gap", clashing(), 6, api.OK},
		{"the only gap", side(1), 0, api.OK},
		{"one of several between the same bins", side(10), 4, api.OK},
		{"the gap behind the last", six(), 7, api.ErrNot},
		{"gap -1", six(), -1, api.ErrNot},
		{"the last number of all", six(), math.MaxInt, api.ErrNot},
		{"a gap of none", side(0), 0, api.ErrNot},
	} {
		want := weevil.House{}
		if x.e == api.OK {
			want = copyHouse(x.h)
			want.Gaps = slices.Delete(want.Gaps, x.gap, x.gap+1)
		}
		if got, e := weevil.Close(x.h, x.gap); !sameHouse(got, want) || e != x.e {
			t.Error(x.name, "gives", got, e, "and should give", want, x.e)
		}
	}
	tried(t, 100, func(r *rand.Rand, h weevil.House) {
		for k := range h.Gaps {
			want := copyHouse(h)
			want.Gaps = slices.Delete(want.Gaps, k, k+1)
			if got, e := weevil.Close(h, k); !sameHouse(got, want) || e != api.OK {
				t.Error(h, "without gap", k, "is", got, e, "and should be", want)
			}
		}
	})
}
