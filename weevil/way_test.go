package weevil_test

import (
	"math/rand/v2"
	"slices"
	"testing"

	"staddle/api"
	"staddle/weevil"
)

// checkCut asks all that there is about gaps that shut two lists, and ways between them.
func checkCut(t *testing.T, h weevil.House, from, keep []int, want int) {
	t.Helper()
	cut, e := weevil.Cut(h, from, keep)
	if len(cut) != want || e != api.OK || !isList(cut, len(h.Gaps)) || !shut(h, from, keep, cut) {
		t.Error(h, from, keep, "is shut by", cut, e, "and should be by", want)
	}
	if is, e := weevil.Shuts(h, from, keep, cut); !is || e != api.OK {
		t.Error(h, from, keep, "is shut by", cut, ":", is, e)
	}
	ways, e := weevil.Ways(h, from, keep)
	if len(ways) != want || e != api.OK {
		t.Error(h, from, keep, "has the ways", ways, e, "and should have", want)
	}
	var all []int
	for _, way := range ways {
		all = append(all, way...)
		if !isWay(h, from, keep, way) {
			t.Error(h, from, keep, "has no way", way)
		}
	}
	slices.Sort(all)
	if !isList(all, len(h.Gaps)) {
		t.Error(h, from, keep, "has ways that are not apart:", ways)
	}
	if n, e := weevil.Leads(h, from, keep, ways); n != want || e != api.OK {
		t.Error(h, from, keep, ways, "lead by", n, e, "and should by", want)
	}
}

// crossed is a house in which the shortest way takes a gap that none of three ways apart can have.
func crossed() weevil.House {
	return weevil.House{Bins: 6, Gaps: gaps(gap(0, 1), gap(1, 2), gap(2, 5), gap(0, 3), gap(3, 2), gap(1, 4), gap(4, 5))}
}

func TestCutAndWays(t *testing.T) {
	for _, x := range []struct {
		name       string
		h          weevil.House
		from, keep []int
		want       int
	}{
		{"example 4, to bin 5", six(), list(0), list(5), 1},
		{"example 4, to bin 3", six(), list(0), list(3), 2},
		{"example 5, to bin 1", six(), list(0), list(1), 2},
		{"three ways", six(), list(1), list(2), 3},
		{"from both ends", six(), list(5, 0), list(3), 3},
		{"from everywhere else", six(), list(0, 1, 2, 4, 5), list(3), 3},
		{"from one half to the other", six(), list(0, 1, 2), list(5, 4, 3), 2},
		{"to two bins", six(), list(0), list(3, 1), 2},
		{"from nowhere", six(), nil, list(0), 0},
		{"to nowhere", six(), list(0), nil, 0},
		{"neither", six(), nil, nil, 0},
		{"no gaps", side(0), list(0), list(1), 0},
		{"one gap", side(1), list(1), list(0), 1},
		{"ten gaps", side(10), list(0), list(1), 10},
		{"where they cannot come", weevil.House{Bins: 4, Gaps: gaps(gap(0, 1), gap(2, 3))}, list(0), list(3), 0},
		{"a row", row(7), list(0), list(6), 1},
		{"a row from the midst", row(7), list(3), list(0, 6), 2},
		{"a way that must be taken back", crossed(), list(0), list(5), 2},
		{"all that is allowed", full(), list(0), list(6), 2},
		{"one bin", weevil.House{Bins: 1}, list(0), nil, 0},
	} {
		t.Run(x.name, func(t *testing.T) {
			checkCut(t, x.h, x.from, x.keep, x.want)
			checkCut(t, x.h, x.keep, x.from, x.want)
		})
	}
	var sizes [weevil.MaxGaps + 1]int
	tried(t, 300, func(r *rand.Rand, h weevil.House) {
		from, keep := someLists(r, h)
		want := leastCut(h, from, keep)
		checkCut(t, h, from, keep, want)
		sizes[want]++
	})
	if slices.Min(sizes[:5]) < 20 {
		t.Error("so many gaps shut:", sizes)
	}
}

func TestShuts(t *testing.T) {
	for _, x := range []struct {
		name string
		gaps []int
		want bool
		e    api.Errno
	}{
		{"example 4, at the beginning", list(0, 1), true, api.OK},
		{"example 4, at the end", list(2, 3), true, api.OK},
		{"in any order", list(3, 2), true, api.OK},
		{"one gap", list(0), false, api.OK},
		{"one of each way, that are not enough", list(0, 3), false, api.OK},
		{"one of each way and between them", list(6, 0, 3), true, api.OK},
		{"more than are needed", list(0, 1, 2, 3), true, api.OK},
		{"all gaps", list(0, 1, 2, 3, 4, 5, 6), true, api.OK},
		{"no gaps", nil, false, api.OK},
		{"gaps beyond", list(4, 5), false, api.OK},
		{"a gap that there is not", list(0, 7), false, api.ErrNot},
		{"gap -1", list(-1), false, api.ErrNot},
		{"a gap that there is not, and one twice", list(0, 0, 7), false, api.ErrNot},
		{"a gap twice", list(0, 1, 0), false, api.ErrTwice},
	} {
		if got, e := weevil.Shuts(six(), list(0), list(3), x.gaps); got != x.want || e != x.e {
			t.Error(x.name, "shut:", got, e, "and should:", x.want, x.e)
		}
	}
	if is, e := weevil.Shuts(six(), nil, list(3), nil); !is || e != api.OK {
		t.Error("nothing is shut from bin 3 without closed gaps:", is, e)
	}
	if is, e := weevil.Shuts(six(), list(3), nil, nil); !is || e != api.OK {
		t.Error("bin 3 is shut from nothing without closed gaps:", is, e)
	}
	shutting, open := 0, 0
	tried(t, 300, func(r *rand.Rand, h weevil.House) {
		from, keep := someLists(r, h)
		closed := someList(r, len(h.Gaps), len(h.Gaps))
		want := shut(h, from, keep, closed)
		if got, e := weevil.Shuts(h, from, keep, closed); got != want || e != api.OK {
			t.Error(h, from, keep, closed, "shut:", got, e, "and should:", want)
		}
		if want {
			shutting++
		} else {
			open++
		}
	})
	if shutting < 300 || open < 300 {
		t.Error("just", shutting, "lists shut, and", open, "do not")
	}
}

func TestLeads(t *testing.T) {
	for _, x := range []struct {
		name       string
		from, keep []int
		ways       [][]int
		want       int
		e          api.Errno
	}{
		{"example 4", list(0), list(3), lists(list(0, 2), list(1, 3)), 2, api.OK},
		{"the other way round", list(3), list(0), lists(list(2, 0), list(3, 1)), 2, api.OK},
		{"a long way", list(0), list(3), lists(list(0, 6, 3)), 1, api.OK},
		{"no ways", list(0), list(3), nil, 0, api.OK},
		{"no ways where there are none", nil, list(3), nil, 0, api.OK},
		{"a way that comes back", list(0), list(5), lists(list(0, 6, 1, 0)), 0, api.ErrTwice},
		{"a way through a bin twice", list(1), list(5), lists(list(6, 1, 0, 2, 4, 5)), 1, api.OK},
		{"a way that goes on behind the list", list(0), list(3, 4), lists(list(0, 2, 4)), 1, api.OK},
		{"a way through its own first list", list(0, 1), list(3), lists(list(0, 2)), 1, api.OK},
		{"a way between bins of the first list, which can begin in both", list(0, 1), list(3), lists(list(0, 1, 3)), 1, api.OK},
		{"a way that ends where it can begin in both, but not go on", list(0, 1), list(3), lists(list(0, 4)), 0, api.ErrWrong},
		{"a way backwards", list(0), list(3), lists(list(2, 0)), 0, api.ErrWrong},
		{"a way that does not end", list(0), list(3), lists(list(0)), 0, api.ErrWrong},
		{"a way that does not begin", list(0), list(3), lists(list(2)), 0, api.ErrWrong},
		{"a way that goes too far", list(0), list(3), lists(list(0, 2, 4)), 0, api.ErrWrong},
		{"a way that does not hang together", list(0), list(3), lists(list(0, 3)), 0, api.ErrWrong},
		{"a way without gaps", list(0), list(3), lists(list(0, 2), nil), 0, api.ErrWrong},
		{"a last way that is wrong", list(0), list(3), lists(list(0, 2), list(3, 1)), 0, api.ErrWrong},
		{"a way from nowhere", nil, list(3), lists(list(2)), 0, api.ErrWrong},
		{"a way to nowhere", list(0), nil, lists(list(0)), 0, api.ErrWrong},
		{"ways with a gap in common", list(0), list(3), lists(list(0, 2), list(0, 6, 3)), 0, api.ErrTwice},
		{"the same way twice", list(0), list(5), lists(list(0, 2, 4, 5), list(0, 2, 4, 5)), 0, api.ErrTwice},
		{"a gap in common, and no way", list(0), list(3), lists(list(0, 2), list(2, 0)), 0, api.ErrTwice},
		{"a gap that there is not", list(0), list(3), lists(list(0, 7)), 0, api.ErrNot},
		{"gap -1", list(0), list(3), lists(list(0, -1)), 0, api.ErrNot},
		{"a gap that there is not, behind one in common and no way", list(0), list(3), lists(list(2), list(2), list(7)), 0, api.ErrNot},
	} {
		if got, e := weevil.Leads(six(), x.from, x.keep, x.ways); got != x.want || e != x.e {
			t.Error(x.name, "leads by", got, e, "and should by", x.want, x.e)
		}
	}
	right, wrong := 0, 0
	tried(t, 1000, func(r *rand.Rand, h weevil.House) {
		from, keep := someLists(r, h)
		way := someList(r, len(h.Gaps), 3)
		n, e := weevil.Leads(h, from, keep, lists(way))
		if isWay(h, from, keep, way) {
			right++
			if n != 1 || e != api.OK {
				t.Error(h, from, keep, "has the way", way, "but leads by", n, e)
			}
			return
		}
		wrong++
		if n != 0 || e != api.ErrWrong {
			t.Error(h, from, keep, "does not have the way", way, "but leads by", n, e)
		}
	})
	if right < 300 || wrong < 300 {
		t.Error("just", right, "are ways, and", wrong, "are not")
	}
}
