package weevil_test

import (
	"math/rand/v2"
	"slices"
	"testing"

	"staddle/api"
	"staddle/weevil"
)

func TestWeeks(t *testing.T) {
	const never = weevil.Never
	parted := weevil.House{Bins: 6, Gaps: six().Gaps[:4]}
	for _, x := range []struct {
		name string
		h    weevil.House
		from []int
		want []int
		e    api.Errno
	}{
		{"example 1", six(), list(0), list(0, 1, 1, 2, 3, 4), api.OK},
		{"from the other end", six(), list(5), list(4, 3, 3, 2, 1, 0), api.OK},
		{"from both ends", six(), list(5, 0), list(0, 1, 1, 2, 1, 0), api.OK},
		{"from both ends, the other way round", six(), list(0, 5), list(0, 1, 1, 2, 1, 0), api.OK},
		{"from everywhere", six(), list(3, 1, 4, 0, 5, 2), list(0, 0, 0, 0, 0, 0), api.OK},
		{"from nowhere", six(), nil, list(never, never, never, never, never, never), api.OK},
		{"where they cannot come", parted, list(1), list(1, 0, 2, 1, never, never), api.OK},
		{"from where they cannot go", parted, list(4), list(never, never, never, never, 0, never), api.OK},
		{"one bin", weevil.House{Bins: 1}, list(0), list(0), api.OK},
		{"several gaps between the same bins", side(10), list(1), list(1, 0), api.OK},
		{"seven bins in a row", row(7), list(0), list(0, 1, 2, 3, 4, 5, 6), api.OK},
		{"all that is allowed", full(), list(6), list(1, 2, 3, 2, 2, 1, 0), api.OK},
		{"a sight changes nothing", clashing(), list(0), list(0, 1, 1, 2, 3, 4), api.OK},
		{"a bin that there is not", six(), list(0, 6), nil, api.ErrNot},
		{"a bin that there is not, and one twice", six(), list(0, 0, 6), nil, api.ErrNot},
		{"bin -1", six(), list(-1), nil, api.ErrNot},
		{"a bin twice", six(), list(0, 5, 0), nil, api.ErrTwice},
	} {
		got, e := weevil.Weeks(x.h, x.from)
		if !slices.Equal(got, x.want) || e != x.e {
			t.Error(x.name, "gives", got, e, "and should give", x.want, x.e)
		}
		if is, f := weevil.Explains(x.h, x.from); f != x.e || f != api.OK && is {
			t.Error(x.name, "explains", is, f, "and should have error", x.e)
		}
	}
	tried(t, 300, func(r *rand.Rand, h weevil.House) {
		from := someList(r, h.Bins, h.Bins)
		if got, e := weevil.Weeks(h, from); !slices.Equal(got, weeksOf(h, from, nil)) || e != api.OK {
			t.Error(h, from, "gives", got, e, "and should give", weeksOf(h, from, nil))
		}
	})
}

func TestExplains(t *testing.T) {
	two := six(seen(2, 3), none(1, 1))
	for _, x := range []struct {
		name string
		h    weevil.House
		from []int
		want bool
	}{
		{"example 2, bin 4", two, list(4), true},
		{"example 2, bin 5", two, list(5), true},
		{"example 2, both", two, list(5, 4), true},
		{"a bin that is too near to bin 1", two, list(3), false},
		{"one that is fine, and one that is too near", two, list(4, 2), false},
		{"from nowhere", two, nil, false},
		{"from nowhere, where none were seen", six(none(1, 1), none(9, 0)), nil, true},
		{"no sights", six(), list(3), true},
		{"no sights and from nowhere", six(), nil, true},
		{"seen in the last week", six(seen(4, 5)), list(0), true},
		{"seen a week too soon", six(seen(3, 5)), list(0), false},
		{"not seen in the last week without them", six(none(3, 5)), list(0), true},
		{"not seen a week too late", six(none(4, 5)), list(0), false},
		{"seen in the beginning", six(seen(0, 5)), list(5), true},
		{"seen in the beginning in another bin", six(seen(0, 5)), list(4), false},
		{"seen where they cannot come", weevil.House{Bins: 2, Sights: []weevil.Sight{seen(9, 1)}}, list(0), false},
		{"not seen where they cannot come", weevil.House{Bins: 2, Sights: []weevil.Sight{none(9, 1)}}, list(0), true},
		{"the last sight alone is not explained", six(seen(1, 1), seen(1, 2), none(2, 3)), list(0), false},
	} {
		if got, e := weevil.Explains(x.h, x.from); got != x.want || e != api.OK {
			t.Error(x.name, "explains all:", got, e, "and should:", x.want)
		}
	}
	is, not := 0, 0
	tried(t, 300, func(r *rand.Rand, h weevil.House) {
		for range 5 {
			from := someList(r, h.Bins, 4)
			want := explainsAll(h, from, numbers(len(h.Sights)))
			if got, e := weevil.Explains(h, from); got != want || e != api.OK {
				t.Error(h, from, "explains all:", got, e, "and should:", want)
			}
			if want {
				is++
			} else {
				not++
			}
		}
	})
	if is < 1000 || not < 1000 {
		t.Error("just", is, "lists explain all, and", not, "do not")
	}
}

func TestCleared(t *testing.T) {
	for _, x := range []struct {
		name string
		h    weevil.House
		want []int
	}{
		{"example 2", six(seen(2, 3), none(1, 1)), list(0, 1, 2, 3)},
		{"example 3", clashing(), list(0, 1, 2, 3, 4, 5)},
		{"the last sight of example 3 alone", six(none(2, 4)), list(1, 2, 3, 4, 5)},
		{"no sights", six(), nil},
		{"sights that are Seen", six(seen(0, 3), seen(9, 1)), nil},
		{"the bin itself", six(none(0, 4)), list(4)},
		{"two bins", six(none(0, 4), seen(1, 1), none(0, 1)), list(1, 4)},
		{"all that can come there", weevil.House{Bins: 4, Gaps: gaps(gap(0, 2)), Sights: []weevil.Sight{none(9, 0)}}, list(0, 2)},
		{"at the end of a row", row(7, none(5, 0)), list(0, 1, 2, 3, 4, 5)},
	} {
		if got, e := weevil.Cleared(x.h); !slices.Equal(got, x.want) || e != api.OK {
			t.Error(x.name, "clears", got, e, "and should clear", x.want)
		}
	}
	tried(t, 300, func(r *rand.Rand, h weevil.House) {
		var want []int
		for bin := range h.Bins {
			if isCleared(h, bin) {
				want = append(want, bin)
			}
		}
		if got, e := weevil.Cleared(h); !slices.Equal(got, want) || e != api.OK {
			t.Error(h, "clears", got, e, "and should clear", want)
		}
	})
}
