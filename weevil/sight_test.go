package weevil_test

import (
	"math/rand/v2"
	"slices"
	"testing"

	"staddle/api"
	"staddle/weevil"
)

func TestOriginsAndApart(t *testing.T) {
	for _, x := range []struct {
		name           string
		h              weevil.House
		origins, apart []int
		e              api.Errno
	}{
		{"example 2", six(seen(2, 3), none(1, 1)), list(4), list(0), api.OK},
		{"example 3", clashing(), nil, nil, api.ErrClash},
		{"no sights", six(), nil, nil, api.OK},
		{"none were seen", six(none(9, 0), none(9, 5)), nil, nil, api.OK},
		{"one bin", weevil.House{Bins: 1, Sights: []weevil.Sight{seen(0, 0)}}, list(0), list(0), api.OK},
		{"one bin, seen and not seen", weevil.House{Bins: 1, Sights: []weevil.Sight{seen(0, 0), none(0, 0)}}, nil, nil, api.ErrClash},
		{"the first of two bins that are as good", row(3, seen(1, 1), none(0, 1)), list(0), list(0), api.OK},
		{"two that are apart", six(seen(0, 0), seen(1, 5)), list(0, 4), list(0, 1), api.OK},
		{"a last one that is not apart", six(seen(1, 0), seen(1, 3), seen(0, 5)), list(1, 5), list(0, 2), api.OK},
		{"a first one that is not apart from both others", row(5, seen(2, 2), seen(0, 0), seen(0, 4)), list(0, 4), list(1, 2), api.OK},
		{"a cleared bin that explains both", six(seen(1, 0), seen(1, 3), none(0, 1), none(0, 2)), list(0, 3), list(0, 1), api.OK},
		{"the same sight again", six(seen(1, 5), seen(1, 5)), list(4), list(0), api.OK},
		{"a sight that is not Seen before the others", six(none(0, 3), seen(0, 0), seen(1, 5)), list(0, 4), list(1, 2), api.OK},
		{"everywhere in the beginning", row(7, seen(0, 6), seen(0, 5), seen(0, 4), seen(0, 3), seen(0, 2), seen(0, 1), seen(0, 0), seen(1, 0)), list(0, 1, 2, 3, 4, 5, 6), list(0, 1, 2, 3, 4, 5, 6), api.OK},
		{"three in a circle, of which each two have a bin in common", weevil.House{Bins: 3, Gaps: gaps(gap(0, 1), gap(1, 2), gap(2, 0)), Sights: []weevil.Sight{seen(1, 0), seen(1, 1), seen(1, 2)}}, list(0), list(0), api.OK},
		{"three sights, two of which some bin explains, but none all", weevil.House{Bins: 6, Gaps: gaps(gap(0, 3), gap(3, 1), gap(1, 4), gap(4, 2), gap(2, 5), gap(5, 0)), Sights: []weevil.Sight{seen(1, 0), seen(1, 1), seen(1, 2)}}, list(0, 4), list(0), api.OK},
	} {
		origins, e := weevil.Origins(x.h)
		apart, f := weevil.Apart(x.h)
		if !slices.Equal(origins, x.origins) || e != x.e || !slices.Equal(apart, x.apart) || f != x.e {
			t.Error(x.name, "comes from", origins, e, "and has apart", apart, f, "and should have", x.origins, x.apart, x.e)
		}
	}
}

// firstThat returns the first list that is as it is asked to be.
func firstThat(all [][]int, is func(l []int) bool) []int { return all[slices.IndexFunc(all, is)] }

// longestThat returns the first of the longest lists that are as they are asked to be.
func longestThat(all [][]int, is func(l []int) bool) []int {
	var best []int
	for _, l := range all {
		if len(l) > len(best) && is(l) {
			best = l
		}
	}
	return best
}

func TestAllOrigins(t *testing.T) {
	var sizes, aparts [weevil.MaxBins + 1]int
	clashes := 0
	tried(t, 300, func(r *rand.Rand, h weevil.House) {
		origins, e := weevil.Origins(h)
		apart, f := weevil.Apart(h)
		all := originsOf(h)
		if len(all) == 0 {
			clashes++
			if len(origins) != 0 || e != api.ErrClash || len(apart) != 0 || f != api.ErrClash {
				t.Error(h, "clashes, but comes from", origins, e, "and has apart", apart, f)
			}
			return
		}
		if !slices.Equal(origins, all[0]) || e != api.OK {
			t.Error(h, "comes from", origins, e, "and should come from", all[0])
		}
		want := longestThat(listsOf(len(h.Sights)), func(sights []int) bool { return allApart(h, sights) })
		if !slices.Equal(apart, want) || f != api.OK {
			t.Error(h, "has apart", apart, f, "and should have", want)
		}
		sizes[len(all[0])]++
		aparts[len(want)]++
	})
	if clashes < 100 || slices.Min(sizes[:4]) < 10 || slices.Min(aparts[:4]) < 10 {
		t.Error("just", clashes, "houses clash, and others have so many origins and sights apart:", sizes, aparts)
	}
}

func TestSurelyAndPerhaps(t *testing.T) {
	two := six(seen(2, 3), none(1, 1))
	for _, x := range []struct {
		name            string
		h               weevil.House
		week            int
		surely, perhaps []int
		e               api.Errno
	}{
		{"example 2, week 0", two, 0, nil, list(4, 5), api.OK},
		{"example 2, week 1", two, 1, list(4, 5), list(3, 4, 5), api.OK},
		{"example 2, week 2", two, 2, list(3, 4, 5), list(1, 2, 3, 4, 5), api.OK},
		{"example 2, week 9", two, 9, list(0, 1, 2, 3, 4, 5), list(0, 1, 2, 3, 4, 5), api.OK},
		{"no sights", six(), 9, nil, list(0, 1, 2, 3, 4, 5), api.OK},
		{"none can be anywhere", six(none(9, 0)), 9, nil, nil, api.OK},
		{"one bin for certain", six(seen(0, 0)), 0, list(0), list(0, 1, 2, 3, 4, 5), api.OK},
		{"one bin for certain, a week later", six(seen(0, 0)), 1, list(0, 1, 2), list(0, 1, 2, 3, 4, 5), api.OK},
		{"where they cannot come", weevil.House{Bins: 3, Gaps: gaps(gap(0, 1)), Sights: []weevil.Sight{seen(0, 0), none(0, 2)}}, 9, list(0, 1), list(0, 1), api.OK},
		{"one of two ends", row(3, seen(1, 1), none(0, 1)), 0, nil, list(0, 2), api.OK},
		{"one of two ends, a week later", row(3, seen(1, 1), none(0, 1)), 1, list(1), list(0, 1, 2), api.OK},
		{"both ends, two weeks later", row(3, seen(1, 1), none(0, 1)), 2, list(0, 1, 2), list(0, 1, 2), api.OK},
		{"week -1", six(), -1, nil, nil, api.ErrRange},
		{"week 10", six(), 10, nil, nil, api.ErrRange},
		{"week 10, where sights clash", clashing(), 10, nil, nil, api.ErrRange},
		{"where sights clash", clashing(), 9, nil, nil, api.ErrClash},
	} {
		surely, e := weevil.Surely(x.h, x.week)
		perhaps, f := weevil.Perhaps(x.h, x.week)
		if !slices.Equal(surely, x.surely) || e != x.e || !slices.Equal(perhaps, x.perhaps) || f != x.e {
			t.Error(x.name, "has for certain", surely, e, "and perhaps", perhaps, f, "and should have", x.surely, x.perhaps, x.e)
		}
	}
}

func TestAllPlacesOfWeevils(t *testing.T) {
	sure, doubtful := 0, 0
	tried(t, 200, func(r *rand.Rand, h weevil.House) {
		week := r.IntN(5)
		surely, e := weevil.Surely(h, week)
		perhaps, f := weevil.Perhaps(h, week)
		all := originsOf(h)
		if len(all) == 0 {
			if len(surely) != 0 || e != api.ErrClash || len(perhaps) != 0 || f != api.ErrClash {
				t.Error(h, "clashes, but has for certain", surely, e, "and perhaps", perhaps, f)
			}
			return
		}
		var always, once []int
		for bin := range h.Bins {
			n := 0
			for _, from := range all {
				if slices.Contains(reachedBy(h, from, week), bin) {
					n++
				}
			}
			if n == len(all) {
				always = append(always, bin)
			}
			if n > 0 {
				once = append(once, bin)
			}
		}
		if !slices.Equal(surely, always) || e != api.OK || !slices.Equal(perhaps, once) || f != api.OK {
			t.Error(h, week, "has for certain", surely, e, "and perhaps", perhaps, f, "and should have", always, once)
		}
		sure += len(always)
		doubtful += len(once) - len(always)
	})
	if sure < 300 || doubtful < 300 {
		t.Error("just", sure, "bins are sure, and", doubtful, "are possible")
	}
}

func TestClash(t *testing.T) {
	for _, x := range []struct {
		name string
		h    weevil.House
		want []int
		e    api.Errno
	}{
		{"example 3", clashing(), list(0, 1, 2), api.OK},
		{"example 2", six(seen(2, 3), none(1, 1)), nil, api.ErrNone},
		{"no sights", six(), nil, api.ErrNone},
		{"two sights", six(none(1, 1), seen(0, 3), none(5, 5)), list(0, 1), api.OK},
		{"two other ones", six(none(0, 0), seen(0, 3), none(5, 5)), list(1, 2), api.OK},
		{"the same bin", six(seen(1, 5), none(1, 5)), list(0, 1), api.OK},
		{"the same bin, not seen later", six(seen(1, 5), none(2, 5)), list(0, 1), api.OK},
		{"the same bin, not seen earlier", six(seen(2, 5), none(1, 5)), nil, api.ErrNone},
		{"three before two", six(seen(2, 3), none(1, 1), none(2, 4), seen(0, 5), none(0, 5)), list(2, 3), api.OK},
		{"two in the midst", row(7, seen(1, 6), seen(2, 5), seen(3, 4), none(1, 0), none(2, 1), seen(3, 6), seen(0, 3), none(0, 3)), list(4, 6), api.OK},
		{"the last two", row(7, seen(1, 6), seen(2, 5), seen(3, 4), none(1, 0), none(0, 1), seen(3, 6), seen(0, 3), none(0, 3)), list(6, 7), api.OK},
		{"the first of several such lists", six(seen(0, 0), none(0, 0), seen(0, 0), none(0, 0)), list(0, 1), api.OK},
		{"all eight", weevil.House{Bins: 7, Sights: []weevil.Sight{none(0, 0), none(0, 1), none(0, 2), seen(1, 3), none(0, 3), none(0, 4), none(0, 5), none(0, 6)},
			Gaps: gaps(gap(3, 0), gap(3, 1), gap(3, 2), gap(3, 4), gap(3, 5), gap(3, 6))}, list(0, 1, 2, 3, 4, 5, 6, 7), api.OK},
	} {
		if got, e := weevil.Clash(x.h); !slices.Equal(got, x.want) || e != x.e {
			t.Error(x.name, "has clash", got, e, "and should have", x.want, x.e)
		}
	}
	var sizes [weevil.MaxSights + 1]int
	tried(t, 200, func(r *rand.Rand, h weevil.House) {
		got, e := weevil.Clash(h)
		if !clash(h, numbers(len(h.Sights))) {
			if len(got) != 0 || e != api.ErrNone {
				t.Error(h, "does not clash, but has", got, e)
			}
			sizes[0]++
			return
		}
		want := firstThat(listsOf(len(h.Sights)), func(sights []int) bool { return clash(h, sights) })
		if !slices.Equal(got, want) || e != api.OK {
			t.Error(h, "has clash", got, e, "and should have", want)
		}
		sizes[len(want)]++
	})
	if sizes[0] < 100 || slices.Min(sizes[2:6]) < 10 {
		t.Error("so many sights clash:", sizes)
	}
}
